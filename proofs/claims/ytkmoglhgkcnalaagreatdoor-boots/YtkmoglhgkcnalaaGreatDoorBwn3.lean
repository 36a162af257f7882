/- A part of what the last text of the claim imports: texts laid together, without remarks and blanks, by a program. -/
import Derived.Laws.AppendOwn
import Derived.Test.YtkmoglhgkcnalaaGreatDoorBwn2
set_option maxHeartbeats 16000000
set_option maxRecDepth 100000
set_option linter.all false
open Go.Proofs.Tryz
open Go
variable{C H2 N Wg b b2 b3 b4 b5 b7 b9 bs cp gb i j kb m n sh wd:Nat}{F fx:List (Nat×Value)}{Goal:Goroutine->World->Prop}{K:List Item}{KS:List Int}{P:Program}{QS R:Value->World->Prop}{V:Nat->Prop}{W0 w w' w0:World}{Xn msg seed sig:ByteArray}{a:Act}{args cur:Array Value}{c:Int}{cf fr:Frame}{cs:List Frame}{d:Tmp}{df ds:List Deferred}{ev:Operand->Value}{f:FuncId}{fn:Func}{gd:Option (Nat×Bool)}{ops:Array Oper}{p:Op}{rest:List Nat}{tt ty:TypeId}{v:Value}{x:Operand}{xs:List Value}
namespace Go.Proofs.YtkmoglhgkcnalaaGreatDoor
open Go Go.Conc Go.RowKit
structure G7 (bb g t:Nat) (L:List UInt8) (cs:Array Value) (w:World):Prop where
 box:w.heap[bb]?=some (.cells #[.pk bb 0,.sk g L.length cs.size] 171)
 row:w.heap[g]?=some (.cells cs 5)
 all:∀(j:Nat) (x:UInt8),L[j]?=some x->cs[j]?=some (Value.int .u8 x.toNat)
 room:t<=cs.size
theorem ru{bb g t:Nat}{L:List UInt8}{cs:Array Value}{s:ByteArray}(h3:w.heap[bb]?=some (.cells #[.pk bb 0,.sk g (L.length+s.size) cs.size] 171))(h4:w.heap[g]?=some (.cells (cs.toList.take L.length++Go.Lib.strCells s++cs.toList.drop (L.length+s.size)).toArray 5))(hc:L.length+s.size<=cs.size)(ha:∀(j:Nat) (x:UInt8),L[j]?=some x->cs[j]?=some (Value.int .u8 x.toNat))(hr:t<=cs.size):G7 bb g t (L++s.data.toList) (cs.toList.take L.length++Go.Lib.strCells s++cs.toList.drop (L.length+s.size)).toArray w:=by
 have Y8:s.data.toList.length=s.size:=Array.length_toList;have RS:cs.toList.length=cs.size:=Array.length_toList;have e:(cs.toList.take L.length++Go.Lib.strCells s++cs.toList.drop (L.length+s.size)).toArray.size=cs.size:=by simp[Go.Lib.strCells_length];omega
 refine⟨by rw[e,List.length_append,Y8];exact h3,h4,λj x hj=>?_,by rw[e];exact hr⟩;have e1:(cs.toList.take L.length).length=L.length:=by rw[List.length_take];omega
 rw[List.getElem?_toArray,List.append_assoc];by_cases hjl:j<L.length
 .rw[List.getElem?_append_left hjl]at hj;rw[List.getElem?_append_left o_,List.getElem?_take_of_lt hjl,Array.getElem?_toList,ha j x hj]
 .rw[List.getElem?_append_right o_]at hj;have QK:=(List.getElem?_eq_some_iff.1 hj).1;rw[List.getElem?_append_right o_,e1,List.getElem?_append_left (by rw[Go.Lib.strCells_length];omega),Go.Lib.strCells,List.getElem?_map,hj];rfl
section
variable{o:Oper}{y:Operand}{t e:TypeId}{g:Nat}
theorem GK{l:Nat}(QH:o.op=.slice t x (some y) none none)(hx:ev x=.slice (some ⟨g,i,none⟩) l cp)(hy:ev y=.int .i64 (n:Int))(hu:P.underlying t=some (.slice e))(hs:(P.info? e).map (·.size)=some 1)(h:n<=l)(h':n<cp):(execOp ev o).run P w=.ok (.value (.slice (some ⟨g,i+n,none⟩) (l- n) (cp- n))) w:=by
 cases hq:P.info? e with
 |none=>simp[hq]at hs
 |some d=>
  have hd:d.size=1:=by simpa[hq]using hs
  have h3:¬cp=n:=by omega
  simp[execOp,QH,hx,hy,Instr.sliceAt,Instr.slice,Instr.sliceBounds,run_underlying hu,Instr.sliceBound,asIntOf,sizeOf,typeInfo,hq,hd,h,h3,fO]
end
section
variable{p:Bool}{A:Ax}
theorem EP(bk o c:Nat)(xs:List ByteArray)(w:World)(QU:∀(j:Nat) x,xs[j]?=some x->w.cell? ⟨bk,o+j,none⟩=some (.string x))(h1:1<=xs.length)(hN:xs.length<=140737488355328)(Sa:xs.length<=c)(h0:0<(cD xs xs.length).length)(hlen:(cD xs xs.length).length<=140737488355328):
 Cl (cX prog p A) 93 #[.slice (some ⟨bk,o,none⟩) xs.length c,.string ⟨#[]⟩] w λe w'=>e=.returned (.string ⟨(cD xs xs.length).toArray⟩)/\Bw w w':=by
 obtain⟨cE,tE,zE,hE,_,_⟩:=gC (QU 0 _ (List.getElem?_eq_getElem o_))
 replace hE:w.heap[bk]?=some (.cells cE tE zE):=hE
 have hc:∀(j:Nat) (h:j<xs.length),cE[o+j]?=some (.string xs[j]):=λj h=>by
  obtain⟨c',e',f',r1,_,r3⟩:=gC (QU j _ (List.getElem?_eq_getElem h));rw[show((⟨bk,o+j,none⟩:Addr)).block=bk from rfl,hE]at r1;cases r1;exact r3
 refine av (L:=[.slice (some ⟨bk,o,none⟩) xs.length c,.string ⟨#[]⟩]) func93 rfl λcs a hF=>?_
 iterate 5 refine a9 hF λ_ hF=>?_
 refine aN false hF ?_ (hq:=decide_eq_false o_)
 iterate 2 refine a9 hF λ_ hF=>?_
 by_cases hx1:xs.length=1
 .refine aN true hF ?_ (hq:=decide_eq_true o_);have:=hc 0 o_;refine a9 hF λ_ hF=>?_;refine a9 hF (hy:=by intro o ho;exact kV (n:=0) ho gx gx rfl k_ o_) λ_ hF=>?_
  iterate 2 refine a9 hF λ_ hF=>?_
  refine aL hF ?_;refine⟨?_,Below.refl _ _⟩;have e:cD xs xs.length=xs[0].data.toList:=by
   rw[hx1,jF xs 0 o_];simp[cD]
  rw[e]
 refine aN false hF ?_ (hq:=decide_eq_false o_);refine a9 hF λ_ hF=>?_
 iterate 3 refine a9 hF λ_ hF=>?_
 refine aN false hF ?_ (hq:=rfl)
 iterate 3 refine a9 hF λ_ hF=>?_
 refine gD (λk a w'=>k<=xs.length/\w'=w/\ay [(0,.slice (some ⟨bk,o,none⟩) xs.length c),(1,.string ⟨#[]⟩),(5,.int .i64 ((cD xs k).length:Int)),(39,.slice (some ⟨bk,o,none⟩) xs.length c),(40,.int .i64 (xs.length:Int)),(41,.int .i64 (k:Int))] 75 [] a) (λk=>xs.length- k) 0 ⟨Nat.zero_le _,rfl,hF.O⟩ ?_;clear hF;intro k a w' ⟨hk,e,hF⟩ ih
 replace e:=e.symm
 subst e;refine a9 hF λ_ hF=>?_;by_cases QK:k<xs.length
 .refine aN true hF ?_ (hq:=decide_eq_true o_);have y0:=hc k QK;have TL:=jF xs k QK;have RS:=pU xs (k+1);rw[TL,List.length_append]at RS;generalize xs[k]=q at y0 TL RS;have hql:q.data.toList.length=q.size:=by rw[Array.length_toList];rfl
  iterate 8 refine a9 hF λ_ hF=>?_
  refine aN false hF ?_ (hq:=decide_eq_false (by show¬((q.size:Int)>((9223372036854775807-(cD xs k).length:Nat):Int));omega))
  iterate 5 refine a9 hF λ_ hF=>?_
  iterate 2 refine a9 hF λ_ hF=>?_
  exact fZ (ih (k+1) _ _ ⟨QK,rfl,by rw[TL,List.length_append,hql];exact hF.O⟩ o_)
 have Y2:k=xs.length:=by omega
 subst Y2;refine aN false hF ?_ (hq:=decide_eq_false o_);clear ih;generalize hT:(cD xs xs.length).length=T at h0 hlen hF;refine Rn.am hF λbb w1 _ Xo QM R9 Wz hF=>?_;refine a9 hF λ_ hF=>?_;refine bf (R:=λ_ w2=>pW bb w1 w2/\∃g cs,w2.heap[bb]?=some (.cells #[.pk bb 0,.sk g 0 cs.size] 171)/\w1.heap.size<=g/\w2.heap[g]?=some (.cells cs 5)/\T<=cs.size) hF func113 ((xb bb T w1 R9 (.inl rfl) hlen h0).mono λe w' ⟨h1,h2⟩=>⟨_,h1,h2⟩) λ_ w2 ⟨hB,g,Cq,q1,q2,q3,q4⟩ _ hF=>?_;have SR:=QM.size;have TC:=hB.size;have Vd:=(Array.getElem?_eq_some_iff.1 hE).1;have hE2:w2.heap[bk]?=_:=(hB.block bk o_ o_).trans (Go.Proofs.YtkmoglhgkcnalaaGreatDoor.bk QM hE);have y0:=hc 0 o_;have TL:=jF xs 0 o_;have RS:=pU xs 1;rw[TL,List.length_append,show cD xs 0=[]from by simp[cD]]at RS;have VK:xs[0].data.toList.length=xs[0].size:=Array.length_toList;generalize xs[0]=q at y0 TL RS VK;refine a9 hF λ_ hF=>?_;refine a9 hF (hy:=by intro o ho;exact kV (n:=0) ho gx gx rfl k_ o_) λ_ hF=>?_;refine a9 hF λ_ hF=>?_;refine bf (R:=λ_ w'=>(∃Vi,G7 bb g T (cD xs 1) Vi w')/\Nz bb g w2 w') hF func114 ((qc bb g q w2 q1 q3 o_ (Nat.le_refl _) (by simp at RS;omega)).mono λe w' ⟨h1,h2,h3,h4⟩=>⟨_,h1,⟨_,by rw[TL,show cD xs 0=[]from by simp[cD]];exact ru (L:=[]) h3 h4 (by simp at RS;simp;omega) (λj x hj=>by simp at hj) q4⟩,h2⟩) λ_ w3 ⟨⟨Vi,hn⟩,hT3⟩ _ hF=>?_;have Uw:=hT3.size;have RF:Bw w w3:=⟨by rw[hT3.os,hB.os,QM.os],by rw[hT3.tape,hB.tape,QM.tape],by rw[hT3.output,hB.output,QM.output],by omega,λk hk=>by rw[hT3.block k o_ o_,hB.block k o_ o_,QM.block k hk]⟩;refine a9 hF λ_ hF=>?_;refine a9 hF (hy:=by intro o ho;exact GK (n:=1) ho gx gx rfl k_ o_ o_) λ_ hF=>?_
 iterate 2 refine a9 hF λ_ hF=>?_
 refine gD (λk a w'=>k<=xs.length- 1/\(∃cs',G7 bb g T (cD xs (1+k)) cs' w')/\Bw w w'/\ay [(1,.string ⟨#[]⟩),(8,.pk bb 0),(63,.slice (some ⟨bk,o+1,none⟩) (xs.length- 1) (c- 1)),(64,.int .i64 ((xs.length- 1:Nat):Int)),(65,.int .i64 (k:Int))] 75 [] a) (λk=>xs.length- 1- k) 0 ⟨Nat.zero_le _,⟨_,hn⟩,RF,hF.O⟩ ?_;clear hF RF Uw hT3 hn RS TL y0 VK hE2;intro k a w' ⟨hk,⟨cs',hn⟩,Sj,hF⟩ ih;refine a9 hF λ_ hF=>?_;have hsw:=Sj.size;by_cases QK:k<xs.length- 1
 .refine aN true hF ?_ (hq:=decide_eq_true o_);have hE':=(Sj.block bk Vd).trans hE;have y0:cE[o+1+k]?=some (.string (xs[1+k]' o_)):=by rw[Nat.add_assoc];exact hc (1+k) o_
  have TL:=jF xs (1+k) o_;have RS:=pU xs (1+k+1);rw[TL,List.length_append]at RS;have hql:(xs[1+k]' o_).data.toList.length=(xs[1+k]' o_).size:=Array.length_toList;generalize xs[1+k]' o_=q at y0 TL RS hql
  iterate 3 refine a9 hF λ_ hF=>?_
  refine a9 hF λ_ hF=>?_;have hr:=hn.room;refine bf (R:=λ_ w2=>(∃Vi,G7 bb g T (cD xs (1+k)) Vi w2)/\Nz bb g w' w2) hF func114 ((qc bb g ⟨#[]⟩ w' hn.box hn.row o_ (Nat.zero_le _) (by show _+0<=_;omega)).mono λe w' ⟨h1,h2,h3,h4⟩=>⟨_,h1,⟨_,by have:=ru (t:=T) h3 h4 (by show _+0<=_;omega) hn.all hr;rwa [show(⟨#[]⟩:ByteArray).data.toList=[]from rfl,List.append_nil]at this⟩,h2⟩) λ_ w5 ⟨⟨cs5,WL⟩,hT5⟩ _ hF=>?_;refine a9 hF λ_ hF=>?_;have hr5:=WL.room;refine bf (R:=λ_ w2=>(∃Vi,G7 bb g T (cD xs (1+k+1)) Vi w2)/\Nz bb g w5 w2) hF func114 ((qc bb g q w5 WL.box WL.row o_ (Nat.zero_le _) o_).mono λe w' ⟨h1,h2,h3,h4⟩=>⟨_,h1,⟨_,by rw[TL];exact ru h3 h4 o_ WL.all hr5⟩,h2⟩) λ_ w6 ⟨⟨cs6,hn6⟩,hT6⟩ _ hF=>?_
  iterate 2 refine a9 hF λ_ hF=>?_
  have We:=hT5.size;have hs6:=hT6.size;exact fZ (ih (k+1) _ _ ⟨by omega,⟨_,hn6⟩,Sj.trans ⟨by rw[hT6.os,hT5.os],by rw[hT6.tape,hT5.tape],by rw[hT6.output,hT5.output],by omega,λk hk=>by rw[hT6.block k o_ o_,hT5.block k o_ o_]⟩,hF.O⟩ o_)
 refine aN false hF ?_ (hq:=decide_eq_false o_);rw[show 1+k=xs.length from by omega]at hn;have hr:=hn.room;refine bf (R:=λv w2=>v=.string ⟨(cD xs xs.length).toArray⟩/\pW g w' w2) hF func115 ((jH bb g _ w' hn.box hn.row rfl o_ hn.all ⟨rfl,by show 0<_;omega⟩ o_ o_).mono λe w2 ⟨h1,h2,_⟩=>⟨_,h1,rfl,h2⟩) λ_ w4 ⟨e4,Ry⟩ _ hF=>?_;subst e4;refine a9 hF λ_ hF=>?_;refine aL hF ?_;exact⟨rfl,Sj.trans ⟨Ry.os,Ry.tape,Ry.output,Ry.size,λk hk=>Ry.block k o_ o_⟩⟩
end

end Go.Proofs.YtkmoglhgkcnalaaGreatDoor
namespace Go.Proofs.YtkmoglhgkcnalaaGreatDoor.L1
open Go Go.Conc Go.RowKit Go.Proofs.YtkmoglhgkcnalaaGreatDoor
def Pf:Ax:=λf args w Q=>f=94/\∃(KS:List Int) (s:eD) (n gb glen gcap:Nat) (dig:Nat->Int),KS.length=64/\args=#[.agg s.cells,.sk gb glen gcap]/\w.rangeAt 0 0 (aC KS)/\0<w.heap.size/\s.count=n/\1<=n/\n<65537/\(0<=s.width/\s.width<9)/\(0<=s.q/\s.q<4294967296)/\s.id.size<65536/\n*32<=s.links.size/\
 gb<w.heap.size/\n<=glen/\(∀c,c<n->(0<=dig c/\dig c<256)/\w.cell? ⟨gb,c,none⟩=some (.int .i64 (dig c)))/\Q=λv w'=>∃bL,v=.sk bL n n/\w'.heap[bL]?=some (.cells (Array.ofFn λc:Fin n=>Gr KS s dig c.val) 9)/\Bw w w'
abbrev kX(P:Program:=prog):iJ:=cX P false Pf
theorem Fp(KS:List Int)(QL:KS.length=64)(s:eD)(n gb glen gcap:Nat)(dig:Nat->Int)(w:World)(hK:w.rangeAt 0 0 (aC KS))(h0:0<w.heap.size)(hn:s.count=n)(SA:1<=n)(RV:n<65537)(Sv:0<=s.width/\s.width<9)(hqq:0<=s.q/\s.q<4294967296)(RR:s.id.size<65536)(hlk:n*32<=s.links.size)
 (SL:gb<w.heap.size) (hglen:n<=glen) (TR:∀c,c<n->(0<=dig c/\dig c<256)/\w.cell? ⟨gb,c,none⟩=some (.int .i64 (dig c))):
 Cl kX 94 #[.agg s.cells,.sk gb glen gcap] w λe w'=>∃bL,e=.returned (.sk bL n n)/\w'.heap[bL]?=some (.cells (Array.ofFn λc:Fin n=>Gr KS s dig c.val) 9)/\Bw w w':=
 λL c cs h1 _=>L.call ⟨rfl,KS,s,n,gb,glen,gcap,dig,QL,rfl,hK,h0,hn,SA,RV,Sv,hqq,RR,hlk,SL,hglen,TR,rfl⟩ λv w' ⟨bL,e,h⟩=>h1 v w' ⟨bL,by rw[e],h⟩
theorem u8_any(n:Nat)(hn:n<9223372036854775808)(w:World):Cl kX 151 #[.int .i64 n] w λe w'=>e=.returned (.string ⟨(bX n 1).toArray⟩)/\Bw w w':=Lp.u8_any n hn w
theorem u16_any(n:Nat)(hn:n<9223372036854775808)(w:World):Cl kX 92 #[.int .i64 n] w λe w'=>e=.returned (.string ⟨(bX n 2).toArray⟩)/\Bw w w':=Lp.u16_any n hn w
theorem u32_any(n:Nat)(hn:n<9223372036854775808)(w:World):Cl kX 89 #[.int .i64 n] w λe w'=>e=.returned (.string ⟨(bX n 4).toArray⟩)/\Bw w w':=Lp.u32_any n hn w
theorem of_any(KS:List Int)(ps:List ByteArray)(cap:Nat)(w:World)(b:Nat)(_:b<w.heap.size)(QR:∀k (h:k<ps.length),w.cell? ⟨b,k,none⟩=some (.string ps[k]))(hK:w.rangeAt 0 0 (aC KS))(QL:KS.length=64)
 (hlen:(cD ps ps.length).length<=576460752303423488) (hn:ps.length<=1152921504606846976) (h0:0<ps.length:=by simp):
 Cl kX 91 #[.sk b ps.length cap] w λe w'=>e=.returned (.string ⟨(de KS (cD ps ps.length)).toArray⟩)/\Bw w w':=Lp.of_any KS ps cap w b QR hK QL hlen hn h0
theorem top_any(s:eD)(n:Nat)(hn:s.width=n)(h8:n<=8)(w:World):Cl kX 108 #[.agg s.key] w λe w'=>e=.returned (.int .i64 (cj n))/\Bw w w':=Lp.top_any s n hn h8 w

end Go.Proofs.YtkmoglhgkcnalaaGreatDoor.L1
namespace Go.Proofs.YtkmoglhgkcnalaaGreatDoor
open Go Go.Conc Go.RowKit
theorem Vz.sees{S:Nat->Prop}{wv:World}{a:Addr}(h:Vz W0 S V wv w)(hc:wv.cell? a=some v):V a.block/\w.heap[a.block]?=wv.heap[a.block]?:=by
 have hV:V a.block:=Classical.byContradiction λhn=>by
  unfold World.cell? at hc;split at hc
  .rename_i cs t z e;obtain⟨e1,z1,q⟩:=h.vw.dead a.block (Array.getElem?_eq_some_iff.1 e).1 hn (λh=>h);rw[e]at q;cases q;simp at hc
  .cases hc
 exact⟨hV,(h.vw.mine _ hV).symm⟩
theorem Vz.back{S:Nat->Prop}{wv:World}{cells:Array Value}{t:TypeId}(h:Vz W0 S V wv w)(hk:dw (λb=>b<w.heap.size/\¬S b) w w')(hC:w'.heap[C]?=some (.cells cells t))(h1:w.heap.size<=C)(h2:w.heap.size<=Wg)(h3:Wg<w'.heap.size)(h4:Wg≠C):
 ∃SH,Vz W0 (λb=>S b\/b=Wg) (λb=>V b\/b=C) SH w'/\SH.heap[C]?=some (.cells cells t)/\Bw wv SH:=by
 have QK:=(Array.getElem?_eq_some_iff.1 hC).1;have hz:=h.size;have Wj:=hk.size;have h0:=h.more;obtain⟨H,QY,old,at',new⟩:∃H:Array Obj,H.size=w'.heap.size/\(∀b,b<wv.heap.size->H[b]?=wv.heap[b]?)/\H[C]?=some (.cells cells t)/\∀b,wv.heap.size<=b->b<w'.heap.size->b≠C->H[b]?=some (.cells #[] 0):=by
  refine⟨(wv.heap++Array.replicate (w'.heap.size- wv.heap.size) (Obj.cells #[] 0)).setIfInBounds C (.cells cells t),?_,λb hb=>?_,?_,λb hb QN QQ=>?_⟩
  .simp;omega
  .rw[Array.getElem?_setIfInBounds_ne o_];exact Array.getElem?_append_left hb
  .exact Array.getElem?_setIfInBounds_self_of_lt (by simp;omega)
  .rw[Array.getElem?_setIfInBounds_ne (Ne.symm QQ),Array.getElem?_append_right hb,Array.getElem?_replicate,if_pos o_]
 have vw:Vw (λb=>V b\/b=C) (λ_=>False) {wv with heap:=H} w':=by
  refine⟨Nat.le_of_eq QY,λb hb=>?_,λb hb=>?_,λb o hb ho=>?_,λb hb=>hb.elim,λb hb hn _=>?_,h.vw.tape.trans hk.tape.symm⟩
  .show b<H.size;rcases hb with hb|hb
   .have:=(h.sub b hb).1;omega
   .omega
  .show H[b]?=_;rcases hb with hb|rfl
   .rw[old b (h.vw.low b hb),h.vw.mine b hb];exact(hk.keep b (h.sub b hb)).symm
   .rw[at',hC]
  .have ho:H[b]?=some o:=ho;rcases hb with hb|rfl
   .rw[old b (h.vw.low b hb)]at ho;exact h.vw.calm b o hb ho
   .rw[at']at ho;cases ho;rfl
  .have hb:b<H.size:=hb;show∃e z,H[b]?=_;by_cases hlo:b<wv.heap.size
   .obtain⟨e,z,q⟩:=h.vw.dead b hlo (λhv=>hn (.inl hv)) (λh=>h);exact⟨e,z,(old b hlo).trans q⟩
   .exact⟨0,(0,0),new b o_ o_ λe=>hn (.inr e)⟩
 refine⟨{wv with heap:=H},⟨vw,λb hb=>?_,QY,λb hb=>?_,λb hb=>?_,by omega,λb hb hn=>?_,λb hb hv=>?_,hk.os.trans h.os,hk.output.trans h.output,hk.tape.trans h.tape⟩,at',⟨rfl,rfl,rfl,?_,λb hb=>old b hb⟩⟩
 .rcases hb with hb|rfl
  .have h5:=h.sub b hb;exact⟨by omega,λhs=>hs.elim h5.2 λe=>by omega⟩
  .exact⟨QK,λhs=>hs.elim (λhs=>by have:=h.low _ hs;omega) λe=>h4 e.symm⟩
 .rcases hb with hb|rfl
  .have:=h.low b hb;omega
  .exact h3
 .rcases hb with hb|rfl
  .exact h.far b hb
  .omega
 .exact(hk.keep b ⟨by omega,λhs=>by have:=h.far b hs;omega⟩).trans (h.keep b hb λhv=>hn (.inl hv))
 .exact h.old b hb (hv.elim id λe=>by omega)
 .show wv.heap.size<=H.size;omega
theorem J3{s:eD}{ex:Array Value}{bg be glen gcap:Nat}{dig:Nat->Int}(h:∀c,c<n->w.cell? ⟨gb,c,none⟩=some (.int .i64 (dig c))):NK {s:=s,ex:=ex,bs:=bs,bg:=bg,be:=be,ga:=⟨gb,0,none⟩,glen:=glen,gcap:=gcap,dig:=dig,gr:=(· =gb),KS:=KS} n w:=λw' hw c hc=>by
 have TT:w'.cell? ⟨gb,c,none⟩=some (.int .i64 (dig c)):=by
  have:=h c hc;unfold World.cell? at this⊢;rw[hw gb rfl];exact this
 show(Instr.loadAt 3 (.pointer (some ((⟨gb,0,none⟩:Addr).add c)))).run prog w'= .ok (.int .i64 (dig c)) w'/\∀e∈(Instr.loadAt 3 (.pointer (some ((⟨gb,0,none⟩:Addr).add c)))).events prog w' #[],∃a:Addr,e=⟨.cell a,false,false⟩/\a.block=gb;rw[fO,Nat.zero_add];obtain⟨h1,h2⟩:=az w';refine⟨by simp[Instr.loadAt,loadVar,h1,TT,go_sem],λe he=>?_⟩;have:(Instr.loadAt 3 (.pk gb c)).events prog w' #[]=#[⟨.cell ⟨gb,c,none⟩,false,false⟩]:=by simp[Instr.loadAt,loadVar,h1,h2,TT,go_sem]
 rw[this]at he;simp only[List.mem_toArray,List.mem_singleton]at he;exact⟨_,he,rfl⟩
theorem Q3{wv:World}{Q:Value->World->Prop}{c:Frame}(h:L1.Pf f args wv Q)(S V:Nat->Prop)(w:World)(hv:Vz W0 S V wv w)
 (hn:∀v SH S' V' w',Q v SH->Vz W0 S' V' SH w'->xk prog QS S' (cQ (c.finish v) cs) w'):xk prog QS S (cQ (Frame.enter prog f args .normal) (c::cs)) w:=by
 obtain⟨rfl,KS,s,n,gb,glen,gcap,dig,QL,rfl,hK,h0,WU,SA,RV,Sv,hq,RR,hlk,SL,Xh,TR,rfl⟩:=h;intro gs d sl t q hB;have RQ:∃v0,wv.cell? ⟨0,0,none⟩=some v0:=by
  have h1:(aC KS)[0]?=some ((aC KS)[0]'(by simp[aC,QL])):=List.getElem?_eq_getElem _;exact⟨_,hK 0 _ h1⟩
 obtain⟨v0,RQ⟩:=RQ;obtain⟨V0,e0⟩:=hv.sees RQ;have hg0:=(TR 0 o_).2;obtain⟨Vg,eg⟩:=hv.sees hg0;have e0:w.heap[0]?=wv.heap[0]?:=e0;have eg:w.heap[gb]?=wv.heap[gb]?:=eg;have cellg:∀c,(w.at d).cell? ⟨gb,c,none⟩=wv.cell? ⟨gb,c,none⟩:=λc=>by
  show w.cell? _=_;unfold World.cell?;rw[eg]
 have cell0:∀c,(w.at d).cell? ⟨0,c,none⟩=wv.cell? ⟨0,c,none⟩:=λc=>by
  show w.cell? _=_;unfold World.cell?;rw[e0]
 have D:ov {s:=s,ex:=#[],bs:=0,bg:=0,be:=0,ga:=⟨gb,0,none⟩,glen:=glen,gcap:=gcap,dig:=dig,gr:=(· =gb),KS:=KS} n (L1.Gr KS s dig):=
  {call:=λc hc w1 Wq h1=>(Lp.end_any KS s c (dig c) (s.links.extract (c*32) ((c+1)*32)) ⟨Sv,hq,RR,by omega,(TR c hc).1,by rw[ByteArray.size_extract];omega⟩ w1 Wq QL h1).mono λ_ _ h=>⟨_,h.1,rfl⟩
   plain:=λc _=>⟨_,rfl⟩
   glen:=Xh
   count:=WU
   small:=by show n<=65536;omega
   links:=hlk}
 have hent:=fJ (P:=prog) [.agg s.cells,.sk gb glen gcap] func94 zi rfl;rw[show(#[.agg s.cells,.sk gb glen gcap]:Array Value)=[Value.agg s.cells,.sk gb glen gcap].toArray from rfl,hent]at hB;have hF:=dc [Value.agg s.cells,.sk gb glen gcap] 20 s_;refine Hb (wK:=w.at d) (S:=S) D o_ (λb hb=>by cases hb;exact hv.sub _ Vg) (hv.sub _ V0) (J3 λc hc=>(cellg c).trans (TR c hc).2) (λj v hj=>by rw[Nat.zero_add];rw[cell0];have:=hK j v hj;rwa [Nat.zero_add]at this) ⟨v0,(cell0 0).trans RQ⟩ (hF.only ⟨by simp[dT],rfl,trivial⟩) zi ⟨hB.at0,hB.leave,hB.past,hB.quiet,hB.who,hB.low,λb hb=>hb.elim,λb hb=>hb⟩ ?_;intro TD w' S8 t' q' Wg C hb;obtain⟨b1,b2,b3,b4,b5,b6,b7,b8,b9,b10,Yr⟩:=hb;obtain⟨SH,v1,v2,v3⟩:=hv.back (w':=w') ⟨b2.keep,b2.size,b2.os,b2.output,b2.tape⟩ b3 b4 b5 b6 b7;exact hn _ SH _ _ w' ⟨C,rfl,v2,v3⟩ v1 TD w'.drawn S8 t' q' ⟨b1,Yr,b8,b9,b10,v1.low,λb hb=>hb.elim,λb hb=>hb.elim⟩

theorem xk.start{W:World}(h:xk P QS (λ_=>False) (cQ (Frame.enter P f args .normal) []) W):dB P QS (solo (G (Frame.enter P f args .normal) []) W) #[]:=
 h #[cQ (Frame.enter P f args .normal) []] W.drawn none #[] (λ_=>0)
  {at0:=rfl
   leave:=leavers_one _ _
   past:=⟨λsaid=>by rintro⟨i,j,_,⟨a,b,ha,_⟩,_⟩;simp[Trace.act?]at ha,λi a ha=>by simp[touchAt,Trace.act?]at ha,λi g hg=>by simp[Trace.g?]at hg,rfl,by simp⟩
   quiet:=λi op x hi=>by simp at hi
   who:=λop QH=>by simp at QH
   low:=λb hb=>hb.elim
   own:=λb hb=>hb.elim
   ro:=λb hb=>hb.elim}
theorem F8(hk:fr.kind=.normal)(hd:fr.defers=[])(hm:fr.mode=.returning)(hf:P.funcs[fr.fn]?=some fn)(hI:P.inits.idxOf? fr.fn=none)(hr:(results fn fr.tmps).run P w=.ok v w):stepG P true (cQ fr []) w=.ended (.done v) w (seen P fr.fn ((results fn fr.tmps).events P w #[])):=by
 simp[stepG,unwind,doReturn,hk,hd,hm,hf,hI,hr,GStep.after]
noncomputable def i9(W:World):World:={W with heap:=W.heap.map λo=>if gO o=true then o else .cells #[] 0}
theorem mh(W:World)(b:Nat):(i9 W).heap[b]?=W.heap[b]?.map λo=>if gO o=true then o else .cells #[] 0:=by simp[i9]
theorem xr{W:World}{c:Array Value}{t:TypeId}{z:Nat×Nat}(h:W.heap[b]?=some (.cells c t z)):(i9 W).heap[b]?=some (.cells c t z):=by
 rw[mh,h];rfl
theorem sx{W:World}{a:Addr}(h:W.cell? a=some v):(i9 W).cell? a=some v:=by
 unfold World.cell? at h⊢;split at h
 .rename_i q;rw[xr q];exact h
 .cases h
theorem Gq(W:World):Vz W (λ_=>False) (Qu W) (i9 W) W:=by
 have hs:(i9 W).heap.size=W.heap.size:=by simp[i9]
 refine⟨⟨Nat.le_of_eq hs,λb ⟨o,h,_⟩=>by rw[hs];exact(Array.getElem?_eq_some_iff.1 h).1,λb ⟨o,h,q⟩=>?_,λb o ⟨o',h,q⟩ ho=>?_,λb hb=>hb.elim,λb hb hn _=>?_,rfl⟩,λb ⟨o,h,_⟩=>⟨(Array.getElem?_eq_some_iff.1 h).1,λh=>h⟩,hs,λb hb=>hb.elim,λb hb=>hb.elim,Nat.le_refl _,λ_ _ _=>rfl,λ_ _ h=>h,rfl,rfl,rfl⟩
 .rw[mh,h];simp[q]
 .rw[mh,h]at ho;simp[q]at ho;rw[←ho];exact q
 .rw[hs]at hb;refine⟨0,(0,0),?_⟩;rw[mh,Array.getElem?_eq_getElem hb];have:¬gO W.heap[b]=true:=λq=>hn ⟨_,Array.getElem?_eq_getElem hb,q⟩;simp[this]
theorem Vz.below{S:Nat->Prop}{wv:World}(h:Vz W0 S V wv w)(hb:Below (i9 W0).heap.size (i9 W0) wv):Bw W0 w:=by
 have hs:(i9 W0).heap.size=W0.heap.size:=by simp[i9]
 refine⟨h.os,h.tape,h.output,h.more,λb QK=>?_⟩;by_cases hv:V b
 .obtain⟨o,h1,h2⟩:=h.old b QK hv;rw[←h.vw.mine b hv,hb.block b (by rw[hs];exact QK),mh,h1];simp[h2]
 .exact h.keep b QK hv
theorem EJ{t:Tmp}{W:World}(hf:prog.funcs[f]?=some fn)(Ru:fn.results=#[.tmp t])(hI:prog.inits.idxOf? f=none)
 (h:Rn (cX prog false L1.Pf) (λg w'=>∃(a:Act) (k:List Item) (v:Value),g=cQ {(base f).atR a k with mode:=.returning} []/\a.defers=[]/\a.tmps[t]?=some v/\(R v w'/\Below (i9 W).heap.size (i9 W) w')) (Frame.enter prog f args .normal) [] (i9 W))
 (hP:∀v w' W',R v w'->Bw W W'->QS v W'):dB prog QS (solo (G (Frame.enter prog f args .normal) []) W) #[]:=by
 refine xk.start (h (OE prog W QS L1.Pf λh S V w hv hn=>Q3 h S V w hv hn) (λfr cs w' hg S V w hv=>?_) _ _ W (Gq W));obtain⟨a,k,v,e,hd,RH,hR,hB⟩:=hg;injection e with e1 e2;subst e1 e2;have hr:=tS (P:=prog) Ru RH;refine xk.fin rfl λd=>⟨v,_,F8 (fr:={(base f).atR a k with mode:=.returning}) rfl hd rfl hf hI (hr (w.at d)).1,λe he=>?_,hP v w' _ hR ((hv.at w'.drawn d).below ⟨hB.os,hB.tape,hB.output,hB.size,hB.block⟩)⟩;rw[show(results fn ({(base f).atR a k with mode:=.returning}:Frame).tmps).events prog (w.at d) #[]=#[]from(hr (w.at d)).2]at he;simp[seen]at he

section
variable{p:Bool}{A:Ax}
theorem js(x:Int)(k:Nat)(w:World)(hx:Wd x)(h1:2<=k)(h2:k<=31):
 Cl (cX prog p A) 87 #[.int .i64 x,.int .i64 (k:Int)] w λe w'=>e=.returned (.int .i64 (qJ x (-(k:Int))))/\Bw w w':=by
 have e1:x/2^min (k:Int).toNat IntKind.i64.bits=x/2^k:=by rw[show min (k:Int).toNat IntKind.i64.bits=k from by show min (k:Int).toNat 64=k;omega]
 have e2:IntKind.i64.wrap (x*2^min ((32- k:Nat):Int).toNat IntKind.i64.bits)=x*2^(32- k):=by
  rw[show min ((32- k:Nat):Int).toNat IntKind.i64.bits=32- k from by show min ((32- k:Nat):Int).toNat 64=32- k;omega];have:=O6 x k hx h1;rw[IntKind.wrap_i64];unfold wrap64 at this;exact this
 refine av (L:=[.int .i64 x,.int .i64 (k:Int)]) func87 rfl λcs a hF=>?_;refine a9 hF λ_ hF=>?_;refine oZ hF ?_
 iterate 5 refine Gx.q ?_
 refine Gx.q (v:=.int .i64 ((32- k:Nat):Int)) (y:=by intro o a w ho z;exact qC (m:=32) ho gx gx ⟨by omega,by omega⟩) ?_
 iterate 4 refine Gx.q ?_
 refine Gx.e λ_ w1 hF hb _=>?_;refine aL hF ?_;exact⟨by rw[e1,e2,←Ha x k hx h1 h2],hb⟩
theorem mE(x:Int)(a b c:Nat)(w:World)(hx:Wd x)(ha:2<=a)(ha2:a<=31)(hb:2<=b)(QN:b<=31)(hc:2<=c)(Rh:c<=31):
 Cl (cX prog p A) 68 #[.int .i64 x,.int .i64 (a:Int),.int .i64 (b:Int),.int .i64 (c:Int)] w λe w'=>e=.returned (.int .i64 (iZ x a b c))/\Bw w w':=by
 refine av (L:=[.int .i64 x,.int .i64 (a:Int),.int .i64 (b:Int),.int .i64 (c:Int)]) func68 rfl λcs _ hF=>?_
 iterate 3 refine a9 hF λ_ hF=>?_
 refine gJ hF func87 (js x a _ hx ha ha2) λw1 _ QM hF=>?_
 iterate 3 refine a9 hF λ_ hF=>?_
 refine gJ hF func87 (js x b _ hx hb QN) λw2 _ QN hF=>?_
 iterate 3 refine a9 hF λ_ hF=>?_
 refine gJ hF func87 (js x c _ hx hc Rh) λw3 _ QW hF=>?_
 iterate 7 refine a9 hF λ_ hF=>?_
 refine aL hF ?_;refine⟨?_,ab (ab QM QM.size QN) (by have:=QM.size;have:=QN.size;omega) QW⟩;rw[p_ (qI _ _) (qI _ _),p_ (gL _ _ _) (qI _ _)];rfl
theorem mF(x:Int)(a b c:Nat)(w:World)(hx:Wd x)(ha:2<=a)(ha2:a<=31)(hb:2<=b)(QN:b<=31)(Rh:c<=31):
 Cl (cX prog p A) 67 #[.int .i64 x,.int .i64 (a:Int),.int .i64 (b:Int),.int .i64 (c:Int)] w λe w'=>e=.returned (.int .i64 (gf x a b c))/\Bw w w':=by
 have e1:x/2^min (c:Int).toNat IntKind.i64.bits=x/2^c:=by rw[show min (c:Int).toNat IntKind.i64.bits=c from by show min (c:Int).toNat 64=c;omega]
 refine av (L:=[.int .i64 x,.int .i64 (a:Int),.int .i64 (b:Int),.int .i64 (c:Int)]) func67 rfl λcs _ hF=>?_
 iterate 3 refine a9 hF λ_ hF=>?_
 refine gJ hF func87 (js x a _ hx ha ha2) λw1 _ QM hF=>?_
 iterate 3 refine a9 hF λ_ hF=>?_
 refine gJ hF func87 (js x b _ hx hb QN) λw2 _ QN hF=>?_
 iterate 9 refine a9 hF λ_ hF=>?_
 refine aL hF ?_;refine⟨?_,ab QM QM.size QN⟩;rw[e1,p_ (qI _ _) (qI _ _),p_ (gL _ _ _) (Ma hx _)];rfl
end

end Go.Proofs.YtkmoglhgkcnalaaGreatDoor
namespace Go.Proofs.YtkmoglhgkcnalaaGreatDoor.L1
open Go Go.Conc Go.RowKit Go.Proofs.YtkmoglhgkcnalaaGreatDoor
theorem e_(a:Nat)(ha:a<9223372036854775808):(BitVec.ofInt 64 (a:Int)).toNat=a:=by
 rw[BitVec.ofInt_natCast,BitVec.toNat_ofNat];exact Nat.mod_eq_of_lt o_
theorem dj(a b:Nat)(ha:a<9223372036854775808)(hb:b<9223372036854775808):bits .and .i64 (a:Int) (b:Int)=((a&&&b:Nat):Int):=by
 have hx:a&&&b<2^63:=Nat.and_lt_two_pow _ o_;show IntKind.i64.wrap ((BitVec.ofInt 64 (a:Int)&&&BitVec.ofInt 64 (b:Int)).toNat:Int)=_;rw[BitVec.toNat_and,e_ a ha,e_ b hb,IntKind.wrap_i64];omega
def nz(w:Nat):Prop:=w=2\/w=4\/w=8
theorem AH(a w:Nat)(ha:a<9223372036854775808)(hw:nz w):bits .and .i64 (a:Int) (cj w:Int)=((a%2^w:Nat):Int):=by
 have ht:cj w<9223372036854775808:=by rcases hw with rfl|rfl|rfl<;>decide
 rw[dj a (cj w) ha ht];unfold cj;rw[Nat.and_two_pow_sub_one_eq_mod]
def cy(L:List UInt8)(w c:Nat):Nat:=(L.getD (c/(8/w)) 0).toNat/2^(8- w- c%(8/w)*w)%2^w
def eF(L:List UInt8)(w:Nat):Nat->Nat
 |0=>0
 |c+1=>eF L w c+(cj w- cy L w c)
def ik(Q:List UInt8)(w sh:Nat):List UInt8:=Q++bX (eF Q w (256/w)*2^sh) 2
def jE(KS:List Int)(s:eD)(dig:Nat->Int)(n:Nat):List UInt8:=(List.range n).flatMap λc=>(pp KS s c (dig c) (s.links.extract (c*32) ((c+1)*32))).data.toList
theorem J4(L:List UInt8)(w c:Nat):cy L w c<2^w:=Nat.mod_lt _ (Nat.two_pow_pos w)
theorem kL(L:List UInt8)(w c:Nat):cy L w c<=cj w:=by
 have:=J4 L w c;unfold cj;omega
theorem lR{w:Nat}(hw:nz w):cj w<=255:=by rcases hw with rfl|rfl|rfl<;>decide
theorem mj(L:List UInt8){w:Nat}(hw:nz w):∀c,eF L w c<=255*c
 |0=>by simp[eF]
 |c+1=>by
  have:=mj L hw c;have:=lR hw;simp only[eF];omega
theorem J5(L:List UInt8){w:Nat}(hw:nz w)(i k:Nat)(hk:k<8/w)(hi:i<L.length):cy L w (i*(8/w)+k)=L[i].toNat/2^(8- w- k*w)%2^w:=by
 have e1:(i*(8/w)+k)/(8/w)=i:=by rcases hw with rfl|rfl|rfl<;>simp at hk⊢<;>omega
 have e2:(i*(8/w)+k)%(8/w)=k:=by rcases hw with rfl|rfl|rfl<;>simp at hk⊢<;>omega
 unfold cy;rw[e1,e2,List.getD_eq_getElem?_getD,List.getElem?_eq_getElem hi];rfl

section
variable{o:Oper}{y:Operand}{u:TypeId}{m n:Int}
theorem lT(QH:o.op=.binOp .sub 3 x y u)(hx:ev x=.int .i64 m)(hy:ev y=.int .i64 n)(h: -9223372036854775808<=m- n/\m- n<9223372036854775808):(execOp ev o).run prog w=.ok (.value (.int .i64 (m- n))) w:=by
 have e:IntKind.i64.wrap (m- n)=m- n:=by rw[IntKind.wrap_i64];omega
 simp[execOp,QH,hx,hy,go_sem,e]
theorem xH(QH:o.op=.binOp .geq 3 x y u)(hx:ev x=.int .i64 m)(hy:ev y=.int .i64 n):(execOp ev o).run prog w=.ok (.value (.bool (decide (m≥n)))) w:=by
 simp[execOp,QH,hx,hy,go_sem]
theorem qP(QH:o.op=.binOp .gtr 3 x y u)(hx:ev x=.int .i64 m)(hy:ev y=.int .i64 n):(execOp ev o).run prog w=.ok (.value (.bool (decide (m>n)))) w:=by
 simp[execOp,QH,hx,hy,go_sem]
theorem qM{k:Nat}(QH:o.op=.binOp .shr 3 x y u)(hx:ev x=.int .i64 m)(hy:ev y=.int .i64 k)(h:k<=64):(execOp ev o).run prog w=.ok (.value (.int .i64 (m/2^k))) w:=by
 have h0:(0:Int)<=(k:Int):=by omega
 have h1:(k:Int)<=64:=by omega
 simp[execOp,QH,hx,hy,go_sem]
theorem gk{k:Nat}(QH:o.op=.binOp .shl 3 x y u)(hx:ev x=.int .i64 m)(hy:ev y=.int .i64 k)(h:k<=64)(hb: -9223372036854775808<=m*2^k/\m*2^k<9223372036854775808):(execOp ev o).run prog w=.ok (.value (.int .i64 (m*2^k))) w:=by
 have h0:(0:Int)<=(k:Int):=by omega
 have h1:(k:Int)<=64:=by omega
 have e:IntKind.i64.wrap (m*2^k)=m*2^k:=by rw[IntKind.wrap_i64];omega
 simp[execOp,QH,hx,hy,go_sem,e]
theorem dD(QH:o.op=.binOp .and 3 x y u)(hx:ev x=.int .i64 m)(hy:ev y=.int .i64 n):(execOp ev o).run prog w=.ok (.value (.int .i64 (bits .and .i64 m n))) w:=by
 simp[execOp,QH,hx,hy,go_sem]
theorem qO{s:ByteArray}{p:Nat}(QH:o.op=.index 9 x y)(hx:ev x=.string s)(hy:ev y=.int .i64 p)(h:p<s.size):(execOp ev o).run prog w=.ok (.value (.int .u8 (s[p].toNat:Int))) w:=by
 have hu:prog.underlying 9=some .string:=by kernel_rfl
 simp[execOp,QH,hx,hy,Instr.index,asIntOf,run_underlying hu,h]
theorem li{b:UInt8}(QH:o.op=.convert 5 3 x)(hx:ev x=.int .u8 (b.toNat:Int)):(execOp ev o).run prog w=.ok (.value (.int .i64 (b.toNat:Int))) w:=by
 have h1:prog.underlying 5=some (.int .u8):=by kernel_rfl
 have h2:prog.underlying 3=some (.int .i64):=by kernel_rfl
 have hb:=b.toNat_lt;have e:IntKind.i64.wrap (b.toNat:Int)=b.toNat:=by rw[IntKind.wrap_i64];omega
 simp[execOp,QH,hx,go_sem,h1,h2,e]
theorem qN(QH:o.op=.binOp .quo 3 x y u)(hx:ev x=.int .i64 m)(hy:ev y=.int .i64 2)(h0:0<=m)(h1:m<9223372036854775808):(execOp ev o).run prog w=.ok (.value (.int .i64 (m/2))) w:=by
 have e:IntKind.i64.wrap (m/2)=m/2:=by rw[IntKind.wrap_i64];omega
 have e2:m.tdiv 2=m/2:=Int.tdiv_eq_ediv_of_nonneg h0;simp[execOp,QH,hx,hy,go_sem,e2,e]
theorem KV{s:ByteArray}{t:Nat}(QH:o.op=.call {callee:=.builtin .len,args:=#[.tmp t],argTypes:=#[9]})(hx:ev (.tmp t)=.string s):(execOp ev o).run prog w=.ok (.value (.int .i64 s.size)) w:=by
 have hu:prog.underlying 9=some .string:=by kernel_rfl
 simp[execOp,QH,resolve,hx,invoke,builtin,Builtin.len_,run_underlying hu,goInt]
theorem ee(QH:o.op=.binOp .add 3 x y u)(hx:ev x=.int .i64 m)(hy:ev y=.int .i64 n)(h: -9223372036854775808<=m+n/\m+n<9223372036854775808):(execOp ev o).run prog w=.ok (.value (.int .i64 (m+n))) w:=(pZ QH hx hy h).1
end
section
variable{o:Oper}{y:Operand}
theorem iy{u:TypeId}(QH:o.op=.binOp .mul 3 x y u)(hx:ev x=.int .i64 m)(hy:ev y=.int .i64 n)(h:m*n<9223372036854775808):(execOp ev o).run prog w=.ok (.value (.int .i64 ((m*n:Nat):Int))) w:=by
 have e:IntKind.i64.wrap ((m:Int)*(n:Int))=((m*n:Nat):Int):=by rw[←Int.natCast_mul,IntKind.wrap_i64];omega
 simp[execOp,QH,hx,hy,go_sem,e]
theorem aI{u:TypeId}(QH:o.op=.binOp .add 3 x y u)(hx:ev x=.int .i64 m)(hy:ev y=.int .i64 n)(h:m+n<9223372036854775808):(execOp ev o).run prog w=.ok (.value (.int .i64 ((m+n:Nat):Int))) w:=by
 have e:IntKind.i64.wrap ((m:Int)+(n:Int))=((m+n:Nat):Int):=by rw[←Int.natCast_add,IntKind.wrap_i64];omega
 simp[execOp,QH,hx,hy,go_sem,e]
theorem pL{z:Operand}{p q r:Bool}(QH:o.op=.pick x y z)(hx:ev x=.bool p)(hy:p=true->ev y=.bool q)(hz:ev z=.bool r):(execOp ev o).run prog w=.ok (.value (.bool (if p then q else r))) w:=by
 cases p
 .simp[execOp,QH,hx,hz,asBool]
 .simp[execOp,QH,hx,hy rfl,asBool]
theorem ix{t:TypeId}(QH:o.op=.binOp .sub 3 x y t)(hx:ev x=.int .i64 m)(hy:ev y=.int .i64 n)(h:n<=m)(hm:m<9223372036854775808):(execOp ev o).run prog w=.ok (.value (.int .i64 ((m- n:Nat):Int))) w:=by
 have e:IntKind.i64.wrap ((m:Int)-(n:Int))=((m- n:Nat):Int):=by rw[IntKind.wrap_i64];omega
 simp[execOp,QH,hx,hy,go_sem,e]
end

def aP(l:List Int):List Value:=l.map λx=>Value.int .i64 x
theorem dt(l:List Int):(aP l).length=l.length:=by simp[aP]
theorem ma(l:List Int):∀v∈aP l,v.oneCell'=true:=by
 intro v hv;simp only[aP,List.mem_map]at hv;obtain⟨x,_,rfl⟩:=hv;rfl
theorem EX(L:List Int)(k:Nat)(h:k<L.length):(aP L)[k]?=some (.int .i64 (L.getD k 0)):=by
 simp[aP,h]
theorem E7{o:Nat}{L:List Int}(h:w.rangeAt b o (aP L))(k:Nat)(hk:k<L.length):w.cell? ⟨b,o+k,none⟩=some (.int .i64 (L.getD k 0)):=h k _ (EX L k hk)
theorem I0{L:List Int}(h:w.rangeAt b 0 (aP L))(k:Nat)(hk:k<L.length):w.cell? ⟨b,k,none⟩=some (.int .i64 (L.getD k 0)):=by
 have:=E7 h k hk;rwa [Nat.zero_add]at this
theorem O7(L:List Int)(k:Nat)(v:Int):(aP L).set k (.int .i64 v)=aP (L.set k v):=by simp[aP,List.map_set]
theorem xC(B:List UInt8)(k:Nat)(h:k<64)(v:Int)(hv:v=if k<16 then qf B k else mU (bF B k) k):(aP (bM B k)).set k (.int .i64 v)=aP (bM B (k+1)):=by
 subst hv;rw[bM,bM,show 64- k=(64-(k+1))+1 from by omega,List.replicate_succ,aP,aP,bF];rw[List.map_append,List.set_append_right _ _ (by simp[bG])];simp[bG]
theorem xD(B:List UInt8)(k j:Nat)(h:j<k):(aP (bM B k))[j]?=some (.int .i64 ((bF B k).getD j 0)):=by
 rw[bM,aP,List.map_append,List.getElem?_append_left (by simp[bG];omega)];simp[bG,h]
theorem oE(B:List UInt8)(k:Nat)(hk:k<64):(aP (bM B k))[k]?=some (.int .i64 0):=by
 rw[bM,aP,List.map_append,List.getElem?_append_right (by simp[bG])];rw[List.map_replicate,List.getElem?_replicate,if_pos (by simp[bG];omega)]
theorem tL(B:List UInt8):aP (bM B 0)=List.replicate 64 (.int .i64 0):=by
 simp[bM,bF,aP]
def lY(H G:List Int)(k:Nat):List Int:=(List.range 8).map λi=>if i<k then IntKind.u32.wrap (H.getD i 0+G.getD i 0)else G.getD i 0
theorem ie(H G:List Int)(k:Nat):(lY H G k).length=8:=by simp[lY]
theorem Ev(H G:List Int):lY H G 8=eM H G 8:=by
 apply List.ext_getElem
 .simp[lY,eM]
 .intro i h1 h2;have h3:i<8:=by simpa[eM]using h2
  simp[lY,eM,h3]
theorem Eu(H G:List Int)(k:Nat)(h:k<8):(lY H G k).getD k 0=G.getD k 0:=by
 rw[lY,List.getD_eq_getElem?_getD,List.getElem?_map,List.getElem?_range h];simp
theorem Et(H G:List Int)(k:Nat):(aP (lY H G k)).set k (.int .i64 (IntKind.u32.wrap (H.getD k 0+G.getD k 0)))=aP (lY H G (k+1)):=by
 rw[O7]
 congr 1
 apply List.ext_getElem
 .simp[lY]
 .intro i h1 h2;have hi:i<8:=by simpa[lY]using h2
  rw[List.getElem_set];simp only[lY,List.getElem_map,List.getElem_range];by_cases e:k=i
  .subst e;simp
  .rw[if_neg e];by_cases e2:i<k
   .rw[if_pos e2,if_pos o_]
   .rw[if_neg e2,if_neg o_]
theorem Gn{G:St}(h:G.Wd):ip G.list:=by
 intro i;by_cases h8:i<8
 .have:i=0\/i=1\/i=2\/i=3\/i=4\/i=5\/i=6\/i=7:=by omega
  rcases this with rfl|rfl|rfl|rfl|rfl|rfl|rfl|rfl
  .exact h.a
  .exact h.b
  .exact h.c
  .exact h.d
  .exact h.e
  .exact h.f
  .exact h.g
  .exact h.h
 .rw[List.getD_eq_getElem?_getD,List.getElem?_eq_none (by simp[St.list];omega)];exact NQ
theorem Gj(L:List UInt8)(a k:Nat)(hk:k<16)(h:a+64<=L.length):cM [L.getD (a+4*k) 0,L.getD (a+4*k+1) 0,L.getD (a+4*k+2) 0,L.getD (a+4*k+3) 0]=qf ((L.drop a).take 64) k:=by
 have e:(((L.drop a).take 64).drop (4*k)).take 4=[L.getD (a+4*k) 0,L.getD (a+4*k+1) 0,L.getD (a+4*k+2) 0,L.getD (a+4*k+3) 0]:=by
  apply List.ext_getElem
  .simp;omega
  .intro i h1 h2;have hi:i<4:=(by simpa using h2);have hg:∀j (hj:j<L.length),L.getD j 0=L[j]:=λj hj=>by rw[List.getD_eq_getElem?_getD,List.getElem?_eq_getElem hj];rfl
   have:i=0\/i=1\/i=2\/i=3:=(by omega);rcases this with rfl|rfl|rfl|rfl
   .simp only[List.getElem_cons_zero];rw[hg _ o_];simp
   .simp only[List.getElem_cons_zero,List.getElem_cons_succ];rw[hg _ o_];simp[Nat.add_assoc]
   .simp only[List.getElem_cons_zero,List.getElem_cons_succ];rw[hg _ o_];simp[Nat.add_assoc]
   .simp only[List.getElem_cons_zero,List.getElem_cons_succ];rw[hg _ o_];simp[Nat.add_assoc]
 rw[qf,e];have:=i4 [L.getD (a+4*k) 0,L.getD (a+4*k+1) 0,L.getD (a+4*k+2) 0,L.getD (a+4*k+3) 0] 4 s_;rw[IntKind.wrap_u32,Int.emod_eq_of_lt this.1 (by simpa using this.2)]
section
variable{o:Oper}{y:Operand}{u:TypeId}{m n:Int}
theorem E5(QH:o.op=.binOp .or 3 x y u)(hx:ev x=.int .i64 m)(hy:ev y=.int .i64 n):(execOp ev o).run prog w=.ok (.value (.int .i64 (bits .or .i64 m n))) w:=by simp[execOp,QH,hx,hy,go_sem]
theorem tX(QH:o.op=.binOp .xor 3 x y u)(hx:ev x=.int .i64 m)(hy:ev y=.int .i64 n):(execOp ev o).run prog w=.ok (.value (.int .i64 (bits .xor .i64 m n))) w:=by simp[execOp,QH,hx,hy,go_sem]
theorem xO{b:UInt8}(k:Nat)(c:Int)(hc:(2:Int)^k=c/\k<=24)(QH:o.op=.binOp .shl 3 x y u)(hx:ev x=.int .i64 (b.toNat:Int))(hy:ev y=.int .u64 k):(execOp ev o).run prog w=.ok (.value (.int .i64 ((b.toNat:Int)*c))) w:=by
 obtain⟨rfl,h⟩:=hc;have h0:(0:Int)<=(k:Int):=by omega
 have h1:(k:Int)<=64:=by omega
 have h2:=b.toNat_lt;have h3:b.toNat*2^k<=255*2^24:=Nat.mul_le_mul o_ (Nat.pow_le_pow_right d_ h);have h4:((b.toNat*2^k:Nat):Int)=(b.toNat:Int)*2^k:=by rw[Int.natCast_mul,Int.natCast_pow];rfl
 have e:IntKind.i64.wrap ((b.toNat:Int)*2^k)=(b.toNat:Int)*2^k:=by rw[←h4,IntKind.wrap_i64];omega
 simp[execOp,QH,hx,hy,go_sem,e]
theorem gG{k l:Nat}{t:TypeId}(hu:prog.underlying t=some (.array l 3))(QH:o.op=.indexAddr t x y)(hx:ev x=.pk b 0)(hy:ev y=.int .i64 (k:Nat))(hk:k<l):(execOp ev o).run prog w=.ok (.value (.pk b k)) w:=by
 have h1:(sizeOf 3).run prog w=.ok 1 w:=by kernel_rfl
 have hn':(k:Int)<l:=by omega
 simp[execOp,QH,hx,hy,go_sem,hu,h1,hn']
theorem z_{s:ByteArray}{p:Nat}(QH:o.op=.index 9 x y)(hx:ev x=.string s)(hy:ev y=.int .i64 p)(h:p<s.size):(execOp ev o).run prog w=.ok (.value (.int .u8 ((s.data.toList.getD p 0).toNat:Int))) w:=by
 rw[qO QH hx hy h,List.getD_eq_getElem?_getD,List.getElem?_eq_getElem (by simpa using h)];rfl
theorem JW(QH:o.op=.alloc 81):(execOp ev o).run prog w=.ok (.value (.pk w.heap.size 0)) (w.alloc (.cells (aP (List.replicate 8 0)).toArray 81)):=by
 have e:execOp ev o=(do pure (.value (←Instr.alloc 81 true (.tuple #[])))):=by simp only[execOp,QH]
 have h2:(do pure (.value (←Instr.alloc 81 true (.tuple #[]))):Sem Next).run prog w=.ok (.value (.pk w.heap.size 0)) (w.alloc (.cells (aP (List.replicate 8 0)).toArray 81)):=by kernel_rfl
 rw[e,h2]
theorem Lt(B:List UInt8)(QH:o.op=.alloc 111):(execOp ev o).run prog w=.ok (.value (.pk w.heap.size 0)) (w.alloc (.cells (aP (bM B 0)).toArray 111)):=by
 have e:execOp ev o=(do pure (.value (←Instr.alloc 111 true (.tuple #[])))):=by simp only[execOp,QH]
 have h2:(do pure (.value (←Instr.alloc 111 true (.tuple #[]))):Sem Next).run prog w=.ok (.value (.pk w.heap.size 0)) (w.alloc (.cells (List.replicate 64 (Value.int .i64 0)).toArray 111)):=by kernel_rfl
 rw[e,h2,tL]
theorem On{a b d e f g h:Int}{x0 x1 x2 x3 x4 x5 x6 x7:Operand}(QH:o.op=.build 81 #[(0,x0),(1,x1),(2,x2),(3,x3),(4,x4),(5,x5),(6,x6),(7,x7)])(h0:ev x0=.int .i64 a)(h1:ev x1=.int .i64 b)(h2:ev x2=.int .i64 c)(h3:ev x3=.int .i64 d)(h4:ev x4=.int .i64 e)(h5:ev x5=.int .i64 f)(h6:ev x6=.int .i64 g)(h7:ev x7=.int .i64 h):(execOp ev o).run prog w=.ok (.value (.agg (aP [a,b,c,d,e,f,g,h]).toArray)) w:=by
 have e1:execOp ev o=(do pure (.value (←Instr.build 81 #[(0,.int .i64 a),(1,.int .i64 b),(2,.int .i64 c),(3,.int .i64 d),(4,.int .i64 e),(5,.int .i64 f),(6,.int .i64 g),(7,.int .i64 h)]))):=by simp[execOp,QH,h0,h1,h2,h3,h4,h5,h6,h7]
 have e2:(do pure (.value (←Instr.build 81 #[(0,.int .i64 a),(1,.int .i64 b),(2,.int .i64 c),(3,.int .i64 d),(4,.int .i64 e),(5,.int .i64 f),(6,.int .i64 g),(7,.int .i64 h)])):Sem Next).run prog w=.ok (.value (.agg (aP [a,b,c,d,e,f,g,h]).toArray)) w:=by kernel_rfl
 rw[e1,e2]
theorem Ol{cs:List Value}(QH:o.op=.load 81 x)(hx:ev x=.pk b 0)(h:w.heap[b]?=some (.cells cs.toArray tt))(hl:cs.length=8):(execOp ev o).run prog w=.ok (.value (.agg cs.toArray)) w:=by
 have hr:w.rangeAt b 0 cs:=λj v hj=>by rw[Nat.zero_add,ak h];simpa using hj
 have hd:=run_loadVar_mid (P:=prog) w b 0 81 cs (.array 8 3) hr k_ rfl (by rw[hl];kernel_rfl);simp[execOp,QH,hx,Instr.loadAt,Instr.sureAddr,hd]
theorem Om(QH:o.op=.fieldAddr 26 x 1)(hx:ev x=.pk b 0):(execOp ev o).run prog w=.ok (.value (.pk b 1)) w:=by
 have e:execOp ev o=(do pure (.value (←Instr.fieldAt 26 (.pk b 0) 1))):=by simp only[execOp,QH,hx]
 have h2:(do pure (.value (←Instr.fieldAt 26 (.pk b 0) 1)):Sem Next).run prog w=.ok (.value (.pk b 1)) w:=by kernel_rfl
 rw[e,h2]
end
theorem xv:prog.underlying 111=some (.array 64 3):=by kernel_rfl
theorem CY:prog.underlying 81=some (.array 8 3):=by kernel_rfl
theorem EQ:(prog.info? 81).map (·.size)=some 8:=by kernel_rfl
def Q2(f:Func):Code:=.seq (.seq (rG f 3) (.cond (.tmp 32) .skip (.exit 0))) (.seq (.block 1 (.seq (rG f 5) (rD f 6))) (rG f 4))
def Q1(f:Func):Code:=.seq (.seq (rG f 8) (.cond (.tmp 67) .skip (.exit 2))) (.seq (.block 3 (.seq (rG f 10) (.seq (rG f 11) (rD f 12)))) (rG f 9))
def Q0(f:Func):Code:=.seq (.seq (rG f 22) (.cond (.tmp 113) .skip (.exit 4))) (.seq (.block 5 (.seq (rG f 24) (.seq (rG f 25) (.seq (rD f 26) (.seq (rG f 27) (.seq (rG f 28) (.seq (rG f 29) (.seq (rG f 30) (.seq (rG f 31) (.seq (rG f 32) (.seq (rG f 33) (.seq (rG f 34) (.seq (rG f 35) (rG f 36)))))))))))))) (rG f 23))
def P_(f:Func):Code:=.seq (.seq (rG f 39) (.cond (.tmp 181) .skip (.exit 6))) (.seq (.block 7 (rD f 41)) (rG f 40))
theorem MX:f35.body=some (.seq (rG f35 0) (.seq (rG f35 1) (.seq (.seq (rG f35 2) (.block 0 (.loop (Q2 f35)))) (.seq (.seq (rG f35 7) (.block 2 (.loop (Q1 f35)))) (.seq (rG f35 13) (.seq (rG f35 14) (.seq (rG f35 15) (.seq (rG f35 16) (.seq (rG f35 17) (.seq (rG f35 18) (.seq (rG f35 19) (.seq (rG f35 20) (.seq (.seq (rG f35 21) (.block 4 (.loop (Q0 f35)))) (.seq (rG f35 37) (.seq (.seq (rG f35 38) (.block 6 (.loop (P_ f35)))) (.seq (rG f35 42) .ret)))))))))))))))):=by kernel_rfl
section
variable{B:List UInt8}{s:ByteArray}{at':Nat}{v4 v5 v8:Value}{W:World}
theorem sF{cs:Array Value}{t:TypeId}(h:w.heap[b]?=some (.cells cs t)):(w.setCell ⟨b,i,none⟩ v).heap[b]?=some (.cells (cs.setIfInBounds i v) t):=by
 simp only[World.setCell];rw[Array.getElem?_modify,h];simp
theorem sG{k:Nat}{v:Int}(hk:k<64)(hv:v=if k<16 then qf B k else mU (bF B k) k)(hb:Below b9 W w)(hc:w.heap[b9]?=some (.cells (aP (bM B k)).toArray 111)):Below b9 W (w.setCell ⟨b9,k,none⟩ (.int .i64 v))/\(w.setCell ⟨b9,k,none⟩ (.int .i64 v)).heap[b9]?=some (.cells (aP (bM B (k+1))).toArray 111):=by
 refine⟨hb.trans (cN w _ _ (Nat.le_refl _)),?_⟩;rw[←xC B k hk v hv,←List.setIfInBounds_toArray];exact sF hc
theorem mq{k:Nat}(hc:w.heap[b9]?=some (.cells (aP (bM B k)).toArray 111))(h:j<k):w.cell? ⟨b9,j,none⟩=some (.int .i64 ((bF B k).getD j 0)):=by
 rw[ak hc];simpa using xD B k j h
theorem pS{o:Obj}(h:Bw w w')(hb:Below n W w)(hc:w.heap[b9]?=some o)(hn:n<=w.heap.size):Below n W w'/\w'.heap[b9]?=some o:=⟨ab hb hn h,bk h hc⟩
theorem ON(Ur:at'+64<=s.size)(QY:s.size<=281474976710656)(hB:(s.data.toList.drop at').take 64=B)
 (next:∀a w,Below b9 W w->w.heap[b9]?=some (.cells (aP (bM B 16)).toArray 111)->ay [(4,v4),(5,v5),(8,v8),(9,.pk b9 0)] 195 [] a->Rn kX Goal (fr.atR a K) cs w):
 ∀(m k:Nat) (a:Act) (w:World),16- k=m->k<=16->Below b9 W w->w.heap[b9]?=some (.cells (aP (bM B k)).toArray 111)->ay [(2,.string s),(3,.int .i64 at'),(4,v4),(5,v5),(8,v8),(9,.pk b9 0),(10,.int .i64 k)] 195 [] a->
  Rn kX Goal (fr.atR a (.code (Q2 f35):: .inLoop (Q2 f35):: .inBlock 0::K)) cs w:=by
 intro m;induction m with
 |zero=>
  intro k a w hm hk hb hc hF
  iterate 2 refine a9 hF λa hF=>?_
  refine Rn.plain rfl (Rn.cond _ (hF.g 32) ?_);rw[decide_eq_false o_];exact Rn.plain rfl (next a w hb (by rw[hc,show k=16 by omega]) (hF.only ⟨rfl,rfl,rfl,rfl,trivial⟩))
 |succ m ih=>
  intro k a w hm hk hb hc hF;have hX:=Gj s.data.toList at' k o_ (by simpa using Ur);rw[hB]at hX
  iterate 2 refine a9 hF λa hF=>?_
  refine Rn.plain rfl (Rn.cond _ (hF.g 32) ?_);rw[decide_eq_true o_]
  iterate 2 refine a9 hF λa hF=>?_
  refine af hF (λo ho=>iy (m:=4) ho rfl (hF.g 36) o_) λa hF=>?_;refine af hF (λo ho=>aI ho (hF.g 35) (hF.g 37) o_) λa hF=>?_;refine a9 hF λa hF=>?_;refine Rn.plain rfl (gI 27 hF ?_)
  iterate 3 refine Gx.q ?_
  refine Gx.q ?_ (y:=λo a w ho z=>z_ ho gx gx o_);refine Gx.q ?_ (y:=λo a w ho z=>li ho gx);refine Gx.q ?_ (y:=λo a w ho z=>xO 24 16777216 d_ ho gx rfl)
  iterate 2 refine Gx.q ?_
  refine Gx.q ?_ (y:=λo a w ho z=>aI (n:=1) ho gx rfl o_);refine Gx.q ?_ (y:=λo a w ho z=>z_ ho gx gx o_);refine Gx.q ?_ (y:=λo a w ho z=>li ho gx);refine Gx.q ?_ (y:=λo a w ho z=>xO 16 65536 d_ ho gx rfl);refine Gx.q ?_ (y:=λo a w ho z=>E5 ho gx gx)
  iterate 2 refine Gx.q ?_
  refine Gx.q ?_ (y:=λo a w ho z=>aI (n:=2) ho gx rfl o_);refine Gx.q ?_ (y:=λo a w ho z=>z_ ho gx gx o_);refine Gx.q ?_ (y:=λo a w ho z=>li ho gx);refine Gx.q ?_ (y:=λo a w ho z=>xO 8 256 d_ ho gx rfl);refine Gx.q ?_ (y:=λo a w ho z=>E5 ho gx gx)
  iterate 2 refine Gx.q ?_
  refine Gx.q ?_ (y:=λo a w ho z=>aI (n:=3) ho gx rfl o_);refine Gx.q ?_ (y:=λo a w ho z=>z_ ho gx gx o_);refine Gx.q ?_ (y:=λo a w ho z=>li ho gx);refine Gx.q ?_ (y:=λo a w ho z=>E5 ho gx gx);refine Gx.q ?_ (y:=λo a w ho z=>gG xv ho gx gx o_);refine Gx.e λa w2 hF QN _ rest hgo=>?_;have Rh:=bk QN hc;obtain⟨QW,RN⟩:=sG (show k<64 by omega) (by rw[if_pos o_]) (hb.trans (QN.mono (Nat.le_of_lt (Array.getElem?_eq_some_iff.1 hc).1))) Rh;refine aM hF (λo ho=>(dr (w:=w2) (b:=b9) (k:=k) (v:=.int .i64 (qf B k)) (v0:=.int .i64 0) rfl rfl k_ ho (hF.g 65) ((hF.g 64).trans (by rw[Kl,hX])) (by rw[ak Rh];simpa using oE B k o_) (by simp[World.frozen?,Rh])).1) λa hF=>hgo _ _ ?_;refine a9 hF λa hF=>?_;refine af hF (λo ho=>aI (n:=1) ho (hF.g 33) rfl o_) λa hF=>?_;refine a9 hF λa hF=>?_;exact Rn.plain rfl (Rn.plain rfl (ih (k+1) a _ o_ o_ QW RN (hF.only ⟨rfl,rfl,rfl,rfl,rfl,rfl,rfl,trivial⟩)))
theorem OM(next:∀a w,Below b9 W w->w.heap[b9]?=some (.cells (aP (bM B 64)).toArray 111)->ay [(4,v4),(5,v5),(8,v8),(9,.pk b9 0)] 195 [] a->Rn kX Goal (fr.atR a K) cs w):
 ∀(m q p:Nat) (a:Act) (w:World),p=q+16->48- q=m->q<=48->Below b9 W w->w.heap[b9]?=some (.cells (aP (bM B p)).toArray 111)->ay [(4,v4),(5,v5),(8,v8),(9,.pk b9 0),(12,.int .i64 p)] 195 [] a->
  Rn kX Goal (fr.atR a (.code (Q1 f35):: .inLoop (Q1 f35):: .inBlock 2::K)) cs w:=by
 intro m;induction m with
 |zero=>
  intro q p a w hp hm hk hb hc hF
  iterate 2 refine a9 hF λa hF=>?_
  refine Rn.plain rfl (Rn.cond _ (hF.g 67) ?_);rw[decide_eq_false o_];exact Rn.plain rfl (next a w hb (by rw[hc,show p=64 by omega]) (hF.only ⟨rfl,rfl,rfl,rfl,trivial⟩))
 |succ m ih=>
  intro q p a w hp hm hk hb hc hF;have hX:=El (bF B p) q;have hY:=nI B p;have h0:=hY q;have h1:=hY (q+1);have h9:=hY (q+9);have h14:=hY (q+14)
  iterate 2 refine a9 hF λa hF=>?_
  refine Rn.plain rfl (Rn.cond _ (hF.g 67) ?_);rw[decide_eq_true o_];refine a9 hF λa hF=>?_;refine af hF (λo ho=>ix (n:=15) ho (hF.g 70) rfl o_ o_) λa hF=>?_;refine af hF (λo ho=>gG (k:=q+1) xv ho (hF.g 9) ((hF.g 71).trans (by rw[show p- 15=q+1 by omega])) o_) λa hF=>?_;refine af hF (λo ho=>(an az ho (hF.g 72) (mq hc o_)).1) λa hF=>?_;refine bH (v:=.int .i64 (gf ((bF B p).getD (q+1) 0) 7 18 3)) hF func67 (mF _ 7 18 3 w h1 d_ d_ d_ d_ d_) λw1 WC a hF=>?_;obtain⟨QM,R9⟩:=pS WC hb hc (Nat.le_of_lt (ar hc))
  iterate 2 refine a9 hF λa hF=>?_
  refine af hF (λo ho=>ix (n:=2) ho (hF.g 75) rfl o_ o_) λa hF=>?_;refine af hF (λo ho=>gG (k:=q+14) xv ho (hF.g 9) ((hF.g 76).trans (by rw[show p- 2=q+14 by omega])) o_) λa hF=>?_;refine af hF (λo ho=>(an az ho (hF.g 77) (mq R9 o_)).1) λa hF=>?_;refine bH (v:=.int .i64 (gf ((bF B p).getD (q+14) 0) 17 19 10)) hF func67 (mF _ 17 19 10 w1 h14 d_ d_ d_ d_ d_) λw2 hw2 a hF=>?_;obtain⟨QN,Rh⟩:=pS hw2 QM R9 (Nat.le_of_lt (ar R9));have e1:=qx ((bF B p).getD (q+1) 0) 7 18 3;have e2:=qx ((bF B p).getD (q+14) 0) 17 19 10;unfold Wd at h0 h9 e1 e2;refine a9 hF λa hF=>?_;refine Rn.plain rfl (gI 16 hF ?_)
  iterate 2 refine Gx.q ?_
  refine Gx.q ?_ (y:=λo a w ho z=>ix (n:=16) ho gx rfl o_ o_);refine Gx.q ?_ (y:=λo a w ho z=>gG (k:=q) xv ho gx (Eq.trans gx (by rw[show p- 16=q by omega])) o_);refine Gx.q ?_ (y:=λo a w ho z=>(an az ho gx (mq (bk z.b Rh) o_)).1);refine Gx.q ?_;refine Gx.q ?_ (y:=λo a w ho z=>ee ho gx gx o_);refine Gx.q ?_;refine Gx.q ?_ (y:=λo a w ho z=>ix (n:=7) ho gx rfl o_ o_);refine Gx.q ?_ (y:=λo a w ho z=>gG (k:=q+9) xv ho gx (Eq.trans gx (by rw[show p- 7=q+9 by omega])) o_);refine Gx.q ?_ (y:=λo a w ho z=>(an az ho gx (mq (bk z.b Rh) o_)).1);refine Gx.q ?_ (y:=λo a w ho z=>ee ho gx gx o_);refine Gx.q ?_;refine Gx.q ?_ (y:=λo a w ho z=>ee ho gx gx o_);refine Gx.q ?_ (y:=λo a w ho z=>dD ho gx rfl);refine Gx.q ?_ (y:=λo a w ho z=>gG xv ho gx gx o_);refine Gx.e λa w3 hF QW _ rest hgo=>?_;have RN:=bk QW Rh;obtain⟨R0,Ue⟩:=sG (show p<64 by omega) (by rw[if_neg o_]) (QN.trans (QW.mono (Nat.le_of_lt (Array.getElem?_eq_some_iff.1 Rh).1))) RN;refine aM hF (λo ho=>(dr (w:=w3) (b:=b9) (k:=p) (v:=.int .i64 (mU (bF B p) p)) (v0:=.int .i64 0) rfl rfl k_ ho (hF.g 95) ((hF.g 94).trans (by rw[nU o_ o_,show mU (bF B p) p=_ from(congrArg (mU _) hp).trans hX];simp only[IntKind.wrap_u32];congr 1;omega)) (by rw[ak RN];simpa using oE B p o_) (by simp[World.frozen?,RN])).1) λa hF=>hgo _ _ ?_;refine a9 hF λa hF=>?_;refine af hF (λo ho=>aI (n:=1) ho (hF.g 68) rfl o_) λa hF=>?_;refine a9 hF λa hF=>?_;exact Rn.plain rfl (Rn.plain rfl (ih (q+1) (p+1) a _ o_ o_ o_ R0 Ue (hF.only ⟨rfl,rfl,rfl,rfl,rfl,trivial⟩)))
end
section
variable{s:St}
theorem KI(h:s.Wd):bits .xor .i64 (bits .and .i64 s.e s.f) (bits .and .i64 (4294967295- s.e) s.g)=bits .xor .u32 (bits .and .u32 s.e s.f) (bits .and .u32 (4294967295- s.e) s.g):=by
 rw[wQ h.e h.f,wQ (Lm h.e) h.g,p_ (gL _ _ _) (gL _ _ _)]
theorem KH(h:s.Wd):bits .xor .i64 (bits .xor .i64 (bits .and .i64 s.a s.b) (bits .and .i64 s.a s.c)) (bits .and .i64 s.b s.c)=bits .xor .u32 (bits .xor .u32 (bits .and .u32 s.a s.b) (bits .and .u32 s.a s.c)) (bits .and .u32 s.b s.c):=by
 rw[wQ h.a h.b,wQ h.a h.c,wQ h.b h.c,p_ (gL _ _ _) (gL _ _ _),p_ (gL _ _ _) (gL _ _ _)]
end
section
variable{H S:List Int}{cap:Nat}{hs v5 v8:Value}{W:World}
theorem OL(hH:ip H)(QX:ip KS)(hSw:ip S)(QL:KS.length=64)(hSl:S.length=64)(h4:W.heap[b4]?=some (.cells #[hs,.sk kb 64 cap] 26))(h9:W.heap[b9]?=some (.cells (aP S).toArray 111))(V8:kb<W.heap.size)(hK:W.rangeAt kb 0 (aP KS))
 (next:∀a w,Bw W w->ay [(5,v5),(8,v8),(15,.int .i64 (cC KS S H 64).a),(16,.int .i64 (cC KS S H 64).b),(17,.int .i64 (cC KS S H 64).c),(18,.int .i64 (cC KS S H 64).d),(19,.int .i64 (cC KS S H 64).e),(20,.int .i64 (cC KS S H 64).f),(21,.int .i64 (cC KS S H 64).g),(22,.int .i64 (cC KS S H 64).h)] 195 [] a->Rn kX Goal (fr.atR a K) cs w):
 ∀(m k:Nat) (s:St) (a:Act) (w:World),64- k=m->k<=64->cC KS S H k=s->Bw W w->ay [(4,.pk b4 0),(5,v5),(8,v8),(9,.pk b9 0),(15,.int .i64 s.a),(16,.int .i64 s.b),(17,.int .i64 s.c),(18,.int .i64 s.d),(19,.int .i64 s.e),(20,.int .i64 s.f),(21,.int .i64 s.g),(22,.int .i64 s.h),(23,.int .i64 k)] 195 [] a->
  Rn kX Goal (fr.atR a (.code (Q0 f35):: .inLoop (Q0 f35):: .inBlock 4::K)) cs w:=by
 intro m;induction m with
 |zero=>
  intro k s a w hm hk SI hb hF
  iterate 2 refine a9 hF λa hF=>?_
  refine Rn.plain rfl (Rn.cond _ (hF.g 113) ?_);rw[decide_eq_false o_];obtain rfl:k=64:=by omega
  subst SI;exact Rn.plain rfl (next a w hb (hF.only ⟨rfl,rfl,rfl,rfl,rfl,rfl,rfl,rfl,rfl,rfl,trivial⟩))
 |succ m ih=>
  intro k s a w hm hk SI hb hF;have hw:s.Wd:=SI▸tA KS S hH k;have yk:=QX k;have yw:=hSw k;have ch:=KI hw;have cw:=gL .xor (bits .and .u32 s.e s.f) (bits .and .u32 (4294967295- s.e) s.g);have tw:=sB s.e 6 11 25;have tq:=sB s.a 2 13 22;have mo:=KH hw;have mw:=gL .xor (bits .xor .u32 (bits .and .u32 s.a s.b) (bits .and .u32 s.a s.c)) (bits .and .u32 s.b s.c);rw[←ch]at cw;rw[←mo]at mw;have ht:=Oi s hw (KS.getD k 0) (S.getD k 0);rw[←ch]at ht;have hd:=hw.d;have he:=hw.e;have hh:=hw.h;unfold Wd at yk yw tw tq hd he hh
  iterate 2 refine a9 hF λa hF=>?_
  refine Rn.plain rfl (Rn.cond _ (hF.g 113) ?_);rw[decide_eq_true o_];refine a9 hF λa hF=>?_;refine bH (v:=.int .i64 (iZ s.e 6 11 25)) hF func68 (mE _ 6 11 25 w hw.e d_ d_ d_ d_ d_ d_) λw1 WC a hF=>?_;obtain⟨QM, -⟩:=pS WC hb (bk hb h4) hb.size
  iterate 3 refine a9 hF λa hF=>?_
  refine af hF (λo ho=>dD ho (hF.g 118) (hF.g 119)) λa hF=>?_;refine a9 hF λa hF=>?_;refine af hF (λo ho=>lT (m:=4294967295) ho rfl (hF.g 121) o_) λa hF=>?_;refine a9 hF λa hF=>?_;refine af hF (λo ho=>dD ho (hF.g 122) (hF.g 123)) λa hF=>?_;refine af hF (λo ho=>tX ho (hF.g 120) (hF.g 124)) λa hF=>?_;refine a9 hF λa hF=>?_;refine Rn.plain rfl (Rn.plain rfl (bY hF ?_))
  iterate 2 refine Gx.q ?_
  refine Gx.q ?_ (y:=λo a w ho z=>ee ho gx gx o_);refine Gx.q ?_;refine Gx.q ?_ (y:=λo a w ho z=>ee ho gx gx o_);refine Gx.q ?_ (y:=λo a w ho z=>Om ho gx);refine Gx.q ?_ (v:=.sk kb 64 cap) (y:=λo a w ho z=>(an mO ho gx (by rw[ak (bk z.b (bk QM h4))];rfl)).1);refine Gx.q ?_;refine Gx.q ?_ (v:=.pk kb (0+k)) (y:=λo a w ho z=>(bJ (e:=3) k_ (λw=>by kernel_rfl) ho gx gx o_).1.trans (by rw[Addr.add_lit]));refine Gx.q ?_ (y:=λo a w ho z=>(an az ho gx (E7 (Go.Proofs.YtkmoglhgkcnalaaGreatDoor.bv z.b (Nat.lt_of_lt_of_le V8 QM.size) (Go.Proofs.YtkmoglhgkcnalaaGreatDoor.bv QM V8 hK)) k o_)).1);refine Gx.q ?_ (y:=λo a w ho z=>ee ho gx gx o_);refine Gx.q ?_;refine Gx.q ?_ (y:=λo a w ho z=>gG (k:=k) xv ho gx gx o_);refine Gx.q ?_ (y:=λo a w ho z=>(an az ho gx (by rw[ak (bk z.b (bk QM h9)),List.getElem?_toArray];exact EX S k o_)).1);refine Gx.q ?_ (y:=λo a w ho z=>ee ho gx gx o_);refine Gx.q ?_ (v:=.int .i64 (s.t (KS.getD k 0) (S.getD k 0))) (y:=λo a w ho z=>(dD ho gx rfl).trans (by rw[nU o_ o_,ht]));refine Gx.q ?_;refine Gx.e λa w2 hF QN _=>?_;have QW:=QM.trans (QN.mono QM.size);have tt:0<=s.t (KS.getD k 0) (S.getD k 0)/\s.t (KS.getD k 0) (S.getD k 0)<4294967296:=by omega
  refine a9 hF λa hF=>?_;refine bH (v:=.int .i64 (iZ s.a 2 13 22)) hF func68 (mE _ 2 13 22 w2 hw.a d_ d_ d_ d_ d_ d_) λw3 hw3 a hF=>?_;obtain⟨R0, -⟩:=pS hw3 QW (bk QW h4) QW.size
  iterate 3 refine a9 hF λa hF=>?_
  refine af hF (λo ho=>dD ho (hF.g 144) (hF.g 145)) λa hF=>?_
  iterate 2 refine a9 hF λa hF=>?_
  refine af hF (λo ho=>dD ho (hF.g 147) (hF.g 148)) λa hF=>?_;refine af hF (λo ho=>tX ho (hF.g 146) (hF.g 149)) λa hF=>?_
  iterate 2 refine a9 hF λa hF=>?_
  refine af hF (λo ho=>dD ho (hF.g 151) (hF.g 152)) λa hF=>?_;refine af hF (λo ho=>tX ho (hF.g 150) (hF.g 153)) λa hF=>?_
  iterate 9 refine a9 hF λa hF=>?_
  refine af hF (λo ho=>ee ho (hF.g 158) (hF.g 159) o_) λa hF=>?_;refine af (v:=.int .i64 (s.next (KS.getD k 0) (S.getD k 0)).e) hF (λo ho=>(dD ho (hF.g 160) rfl).trans (by rw[nU o_ o_,←IntKind.wrap_u32];rfl)) λa hF=>?_
  iterate 9 refine a9 hF λa hF=>?_
  refine af hF (λo ho=>ee ho (hF.g 165) (hF.g 166) o_) λa hF=>?_;refine a9 hF λa hF=>?_;refine af hF (λo ho=>ee ho (hF.g 167) (hF.g 168) o_) λa hF=>?_;refine af (v:=.int .i64 (s.next (KS.getD k 0) (S.getD k 0)).a) hF (λo ho=>(dD ho (hF.g 169) rfl).trans (by
   rw[nU o_ o_,mo];show _=Result.ok (Next.value (.int .i64 (IntKind.u32.wrap (s.t (KS.getD k 0) (S.getD k 0)+s.u)))) _;rw[St.u,IntKind.wrap_u32,IntKind.wrap_u32]
   congr 3
   omega)) λa hF=>?_
  iterate 2 refine a9 hF λa hF=>?_
  refine af hF (λo ho=>aI (n:=1) ho (hF.g 114) rfl o_) λa hF=>?_;refine a9 hF λa hF=>?_;exact Rn.plain rfl (Rn.plain rfl (ih (k+1) (s.next (KS.getD k 0) (S.getD k 0)) a _ o_ o_ (by rw[cC,SI]) R0 (hF.only ⟨rfl,rfl,rfl,rfl,rfl,rfl,rfl,rfl,rfl,rfl,rfl,rfl,rfl,trivial⟩)))
theorem OK{G:St}{Wv:Nat}(hl:H.length=8)(hH:ip H)(hG:G.Wd)(h5:W.heap[b5]?=some (.cells (aP H).toArray 81))(QK:b5<Wv)
 (next:∀a w,Below Wv W w->w.heap[Wv]?=some (.cells (aP (lY H G.list 8)).toArray 81)->ay [(8,v8),(29,.pk Wv 0)] 195 [] a->Rn kX Goal (fr.atR a K) cs w):
 ∀(m k:Nat) (a:Act) (w:World),8- k=m->k<=8->Below Wv W w->w.heap[Wv]?=some (.cells (aP (lY H G.list k)).toArray 81)->ay [(5,.pk b5 0),(8,v8),(29,.pk Wv 0),(30,.int .i64 k)] 195 [] a->
  Rn kX Goal (fr.atR a (.code (P_ f35):: .inLoop (P_ f35):: .inBlock 6::K)) cs w:=by
 intro m;induction m with
 |zero=>
  intro k a w hm hk hb hc hF
  iterate 2 refine a9 hF λa hF=>?_
  refine Rn.plain rfl (Rn.cond _ (hF.g 181) ?_);rw[decide_eq_false o_];exact Rn.plain rfl (next a w hb (by rw[hc,show k=8 by omega]) (hF.only ⟨rfl,rfl,trivial⟩))
 |succ m ih=>
  intro k a w hm hk hb hc hF;have y1:=hH k;have y2:=Gn hG k;unfold Wd at y1 y2;have c5:=(hb.block b5 QK).trans h5;have hg:∀{w':World},w'.heap[Wv]?=some (.cells (aP (lY H G.list k)).toArray 81)->w'.cell? ⟨Wv,k,none⟩=some (.int .i64 (G.list.getD k 0)):=λh=>by
   rw[ak h,List.getElem?_toArray,EX _ k (by rw[ie];omega),Eu _ _ _ o_]
  iterate 2 refine a9 hF λa hF=>?_
  refine Rn.plain rfl (Rn.cond _ (hF.g 181) ?_);rw[decide_eq_true o_];refine Rn.plain rfl (Rn.plain rfl (Rn.plain rfl (gI 10 hF ?_)))
  iterate 2 refine Gx.q ?_
  refine Gx.q ?_ (y:=λo a w ho z=>gG (k:=k) CY ho gx gx o_);refine Gx.q ?_ (y:=λo a w ho z=>(an az ho gx (by rw[ak (bk z.b c5),List.getElem?_toArray];exact EX H k o_)).1);refine Gx.q ?_;refine Gx.q ?_ (y:=λo a w ho z=>gG (k:=k) CY ho gx gx o_);refine Gx.q ?_ (y:=λo a w ho z=>(an az ho gx (hg (bk z.b hc))).1);refine Gx.q ?_ (y:=λo a w ho z=>ee ho gx gx o_);refine Gx.q ?_ (y:=λo a w ho z=>dD ho gx rfl);refine Gx.q ?_ (y:=λo a w ho z=>gG (k:=k) CY ho gx gx o_);refine Gx.e λa w3 hF QW _ rest hgo=>?_;have RN:=bk QW hc;refine aM hF (λo ho=>(dr (w:=w3) (b:=Wv) (k:=k) (v:=.int .i64 (IntKind.u32.wrap (H.getD k 0+G.list.getD k 0))) rfl rfl k_ ho (hF.g 193) ((hF.g 192).trans (by rw[nU o_ o_,IntKind.wrap_u32])) (hg RN) (by simp[World.frozen?,RN])).1) λa hF=>hgo _ _ ?_;refine a9 hF λa hF=>?_;refine af hF (λo ho=>aI (n:=1) ho (hF.g 182) rfl o_) λa hF=>?_;refine a9 hF λa hF=>?_;exact Rn.plain rfl (Rn.plain rfl (ih (k+1) a _ o_ o_ ((hb.trans (QW.mono (Nat.le_of_lt (Array.getElem?_eq_some_iff.1 hc).1))).trans (cN w3 _ _ (Nat.le_refl _))) (by rw[←Et,←List.setIfInBounds_toArray];exact sF RN) (hF.only ⟨rfl,rfl,rfl,rfl,trivial⟩)))
end
theorem CG(H KS:List Int)(s:ByteArray)(at' kb cap:Nat)(hs:Value)(w:World)(hH:H.length=8)(hHw:ip H)(QL:KS.length=64)(QX:ip KS)(hK:w.rangeAt kb 0 (aP KS))
 (Ur:at'+64<=s.size) (QY:s.size<=281474976710656):
 Cl kX 35 #[.agg #[hs,.sk kb 64 cap],.agg (aP H).toArray,.string s,.int .i64 (at':Int)] w
  λe w'=>e=.returned (.agg (aP (lZ KS H ((s.data.toList.drop at').take 64))).toArray)/\Bw w w':=by
 have V8:kb<w.heap.size:=by
  have h:=I0 hK 0 o_;by_cases c:kb<w.heap.size
  .exact c
  .simp[World.cell?,Array.getElem?_eq_none (Nat.le_of_not_lt c)]at h
 refine ce (t:=8) (ty:=81) (n:=8) func35 rfl CY rfl EQ λcs=>?_;refine bm (N:=195) func35 MX (L:=[.agg #[hs,.sk kb 64 cap],.agg (aP H).toArray,.string s,.int .i64 (at':Int)]) λa hF=>?_;refine cW hF λw1 a QM c4 SR hF=>?_;refine cW hF λw2 a QN c5 TC hF=>?_;refine bl hF (λo ho=>JW ho) λw3 a QW c8 Uw hF=>?_;refine bl hF (λo ho=>Lt ((s.data.toList.drop at').take 64) ho) λw4 a R0 c9 Uk hF=>?_;refine a9 hF λa hF=>?_;refine Rn.plain rfl (Rn.plain rfl (Rn.plain rfl ?_));refine ON Ur QY rfl (λa wA hbA cA hF=>?_) 16 0 a w4 rfl d_ (Below.refl _ _) c9 (hF.only ⟨rfl,rfl,rfl,rfl,rfl,rfl,rfl,trivial⟩);refine a9 hF λa hF=>?_;refine Rn.plain rfl (Rn.plain rfl (Rn.plain rfl ?_));refine OM (λa wB hbB cB hF=>?_) 48 0 16 a wA rfl rfl d_ hbA cA (hF.only ⟨rfl,rfl,rfl,rfl,rfl,trivial⟩);have c4B:=(hbB.block _ o_).trans (bk R0 (bk QW (bk QN c4)));have c5B:=(hbB.block _ o_).trans (bk R0 (bk QW c5));have c8B:=(hbB.block _ o_).trans (bk R0 c8);have hB:Bw w wB:=QM.trans ((QN.mono o_).trans ((QW.mono o_).trans ((R0.mono o_).trans (hbB.mono o_))));have hsB:=hbB.size;have e5:∀i,i<8->wB.cell? ⟨w1.heap.size,i,none⟩=some (.int .i64 (H.getD i 0)):=λi hi=>by rw[ak c5B,List.getElem?_toArray];exact EX H i o_
 refine af hF (λo ho=>gG (k:=0) CY ho (hF.g 5) rfl d_) λa hF=>?_;refine af hF (λo ho=>(an az ho (hF.g 96) (e5 0 d_)).1) λa hF=>?_;refine a9 hF λa hF=>?_;refine af hF (λo ho=>gG (k:=1) CY ho (hF.g 5) rfl d_) λa hF=>?_;refine af hF (λo ho=>(an az ho (hF.g 98) (e5 1 d_)).1) λa hF=>?_;refine a9 hF λa hF=>?_;refine af hF (λo ho=>gG (k:=2) CY ho (hF.g 5) rfl d_) λa hF=>?_;refine af hF (λo ho=>(an az ho (hF.g 100) (e5 2 d_)).1) λa hF=>?_;refine a9 hF λa hF=>?_;refine af hF (λo ho=>gG (k:=3) CY ho (hF.g 5) rfl d_) λa hF=>?_;refine af hF (λo ho=>(an az ho (hF.g 102) (e5 3 d_)).1) λa hF=>?_;refine a9 hF λa hF=>?_;refine af hF (λo ho=>gG (k:=4) CY ho (hF.g 5) rfl d_) λa hF=>?_;refine af hF (λo ho=>(an az ho (hF.g 104) (e5 4 d_)).1) λa hF=>?_;refine a9 hF λa hF=>?_;refine af hF (λo ho=>gG (k:=5) CY ho (hF.g 5) rfl d_) λa hF=>?_;refine af hF (λo ho=>(an az ho (hF.g 106) (e5 5 d_)).1) λa hF=>?_;refine a9 hF λa hF=>?_;refine af hF (λo ho=>gG (k:=6) CY ho (hF.g 5) rfl d_) λa hF=>?_;refine af hF (λo ho=>(an az ho (hF.g 108) (e5 6 d_)).1) λa hF=>?_;refine a9 hF λa hF=>?_;refine af hF (λo ho=>gG (k:=7) CY ho (hF.g 5) rfl d_) λa hF=>?_;refine af hF (λo ho=>(an az ho (hF.g 110) (e5 7 d_)).1) λa hF=>?_;refine a9 hF λa hF=>?_;refine a9 hF λa hF=>?_;refine Rn.plain rfl (Rn.plain rfl (Rn.plain rfl ?_));refine OL hHw QX (nI _ 64) QL (bG _ 64) c4B (by rw[cB,oF]) o_ (Go.Proofs.YtkmoglhgkcnalaaGreatDoor.bv hB V8 hK) (λa wC hbC hF=>?_) 64 0 (FR H) a wB rfl d_ rfl (Below.refl _ _) (hF.only ⟨rfl,rfl,rfl,rfl,rfl,rfl,rfl,rfl,rfl,rfl,rfl,rfl,rfl,trivial⟩);generalize hG:cC KS (bF ((s.data.toList.drop at').take 64) 64) H 64=G at hF
 iterate 8 refine a9 hF λa hF=>?_
 refine af (v:=.agg (aP G.list).toArray) hF (λo ho=>On ho (hF.g 171) (hF.g 172) (hF.g 173) (hF.g 174) (hF.g 175) (hF.g 176) (hF.g 177) (hF.g 178)) λa hF=>?_;refine bl hF (λo ho=>JW ho) λw5 a Rz c29 We hF=>?_;refine aM hF (λo ho=>aJ (cells:=(aP G.list).toArray) ho (hF.g 29) (hF.g 179) c29 EQ rfl (all_oneCell_toArray (ma _))) λa hF=>?_;have hsC:=hbC.size;refine a9 hF λa hF=>?_;refine Rn.plain rfl (Rn.plain rfl (Rn.plain rfl ?_));refine OK hH hHw (hG▸tA KS _ hHw 64) ((setRow_other _ _ _ _ o_).trans (bk Rz (bk hbC c5B))) o_ (λa wE hbE cE hF=>?_) 8 0 a _ rfl d_ (Below.refl _ _) (setRow_heap _ _ _ _ _ _ c29) (hF.only ⟨rfl,rfl,rfl,rfl,trivial⟩);have c8E:=(hbE.block _ o_).trans ((setRow_other _ _ _ _ o_).trans (bk Rz (bk hbC c8B)));refine af hF (λo ho=>Ol ho (hF.g 29) cE (by rw[dt,ie])) λa hF=>?_;refine aM hF (λo ho=>aJ ho (hF.g 8) (hF.g 194) c8E (by rw[EQ];simp[dt,ie]) (by simp[dt,ie]) (all_oneCell_toArray (ma _))) λa hF=>?_;exact Rn.plain rfl (Rn.ends rfl (.inr ⟨_,rfl⟩) (Rn.now ⟨a,_,_,_,_,rfl,hF.defers,hF.slot 8 _ rfl,setRow_heap _ _ _ _ _ _ c8E,by simp[dt,ie],by rw[Ev,←hG];rfl,hB.trans ((hbC.mono o_).trans ((Rz.mono o_).trans ((aU _ _ _ o_).trans ((hbE.mono o_).trans (aU _ _ _ o_)))))⟩))

end Go.Proofs.YtkmoglhgkcnalaaGreatDoor.L1
namespace Go.Proofs.YtkmoglhgkcnalaaGreatDoor
open Go Go.Conc Go.RowKit
def ef(n:Nat):Nat:=(n+8)/64*64+64
theorem BJ(n:Nat):(119- n%64)%64=ef n- n- 9:=by unfold ef;omega
theorem lm(n:Nat):n+9<=ef n:=by unfold ef;omega
def qV(L:List UInt8)(i:Nat):List UInt8:=L++[128]++List.replicate (ef L.length- L.length- 9) 0++(bX (8*L.length) 8).take i++List.replicate (8- i) 0
theorem kz(L:List UInt8)(i:Nat)(h:i<=8):(qV L i).length=ef L.length:=by
 have:=lm L.length;simp[qV,bB];omega
theorem xV(L:List UInt8):(L++List.replicate (ef L.length- L.length) 0).set L.length 128=qV L 0:=by
 obtain⟨z,hz⟩:∃z,ef L.length=L.length+9+z:=⟨ef L.length- L.length- 9,by have:=lm L.length;omega⟩;rw[qV,hz,show L.length+9+z- L.length=(z+8)+1 from by omega,show z+8+1- 9=z from by omega,List.replicate_succ,List.set_append_right _ _ o_];simp only[List.cons_append,Nat.sub_self,List.set_cons_zero,List.take_zero,List.append_nil,List.append_assoc,Nat.sub_zero,List.replicate_append_replicate,List.nil_append]
theorem qU(L:List UInt8):qV L 8=L++ic L:=by
 rw[qV,ic,BJ,show([0]:List UInt8)=List.replicate 1 0 from rfl,Lib.repeatL_replicate,Nat.mul_one];simp[bB,List.take_of_length_le]
theorem Ed(L:List UInt8)(i:Nat)(h:i<8)(v:UInt8)(hv:v=UInt8.ofNat (8*L.length/256^(7- i))):(qV L i).set (ef L.length- 8+i) v=qV L (i+1):=by
 subst hv;have:=lm L.length;have hg:=vM 8 (8*L.length) i h;rw[show 8- 1- i=7- i from by omega]at hg;obtain⟨hl,hg⟩:=List.getElem?_eq_some_iff.1 hg;rw[qV,qV,show 8- i=(8-(i+1))+1 from by omega,List.replicate_succ,List.take_succ_eq_append_getElem hl,hg];rw[List.set_append_right _ _ (by simp[bB];omega)];have e:ef L.length- 8+i-(L++[128]++List.replicate (ef L.length- L.length- 9) 0++(bX (8*L.length) 8).take i).length=0:=by simp[bB];omega
 rw[e];simp
theorem I2(n i:Nat)(h:i<8):8*(n:Int)/2^(56- 8*i)%256=((UInt8.ofNat (8*n/256^(7- i))).toNat:Int):=by
 have e:(2:Int)^(56- 8*i)=((256^(7- i):Nat):Int):=by
  rw[show 56- 8*i=8*(7- i)from by omega,Int.pow_mul,Int.natCast_pow];rfl
 rw[e,show 8*(n:Int)=((8*n:Nat):Int)from by omega,←Int.natCast_ediv];simp
theorem O8(L:List UInt8)(k:Nat)(v:UInt8):(aZ L).set k (.int .u8 (v.toNat:Int))=aZ (L.set k v):=by simp[aZ,List.map_set]
theorem LR(L:List UInt8)(j:Nat)(hj:j<L.length):(aZ L).toArray[0+j]?=some (.int .u8 (L[j].toNat:Int)):=by simp[aZ,hj]
theorem ye{o:Oper}{y:Operand}{z:Value}{t e:TypeId}(QH:o.op=.makeSlice t x y)(hx:ev x=.int .i64 (n:Int))(hy:ev y=.int .i64 (n:Int))(hu:P.underlying t=some (.slice e))(hi:(P.info? e).map (λi=>(i.zero,i.size,i.bytes))=some (some z,1,1))(hz:z.cells=#[z])(hb:n<=281474976710656):NG P ev o (λb=>.sk b n n) (.cells (List.replicate n z).toArray e):=λ_=>Dt QH hx hy hu hi hz o_ o_
section
variable{p:Bool}{A:Ax}
theorem xT(s:ByteArray)(w:World)(hs:s.size<=281474976710400):
 Cl (cX prog p A) 34 #[.string s] w λe w'=>e=.returned (.string ⟨(s.data.toList++ic s.data.toList).toArray⟩)/\Bw w w':=by
 have SE:s.data.toList.length=s.size:=Array.length_toList;have hg9:=lm s.size;have hle:ef s.size<=281474976710656:=by unfold ef;omega
 refine av (L:=[.string s]) func34 rfl λcs a hF=>?_
 iterate 9 refine a9 hF λ_ hF=>?_
 replace hF:ay [(0,.string s),(3,.int .i64 (s.size:Int)),(12,.int .i64 (ef s.size:Int))] 40 [] _:=hF.O
 generalize hm:ef s.size=m at hF hg9 hle;refine Rn.am hF (hy:=by intro o ho;exact ye ho gx gx rfl rfl rfl hle) λg w1 _ hg hb hc hz hF=>?_
 iterate 3 refine a9 hF λ_ hF=>?_
 refine FT hF hc (hy:=by intro o ho;exact nL (n:=s.size) ho gx gx rfl k_ hc (Nat.min_eq_left o_) (by simp;omega)) λw2 _ hp hF=>?_;have h2:w2.heap[g]?=some (.cells (aZ (s.data.toList++List.replicate (m- s.size) 0)).toArray 5):=by
  rw[hp.here,show s.data.toList.take s.size=s.data.toList from List.take_of_length_le o_];simp[aZ]
 iterate 2 refine a9 hF λ_ hF=>?_
 refine a9 hF λ_ hF=>?_;refine Rn.st hF (hy:=by intro o ho;exact oA ho gx gx h2 (by simp[bQ];omega) k_ rfl rfl) λw3 _ Wi hF=>?_;have h3:=Wi.here;rw[List.setIfInBounds_toArray,Nat.zero_add,show(Value.int .u8 128)=Value.int .u8 ((128:UInt8).toNat:Int)from rfl,O8]at h3;have e0:=xV s.data.toList;rw[SE,hm]at e0;rw[e0]at h3;refine a9 hF λ_ hF=>?_;refine gD (λk a w'=>k<=8/\Bw w w'/\w'.heap[g]?=some (.cells (aZ (qV s.data.toList k)).toArray 5)/\ay [(3,.int .i64 (s.size:Int)),(4,.sk g m m),(5,.int .i64 (k:Int))] 40 [] a) (λk=>8- k) 0 ⟨Nat.zero_le _,(hb.trans (hp.below hg)).trans (Wi.below hg),h3,hF.O⟩ ?_;clear hF h2 h3 hp Wi e0 hc hb;intro k a w' ⟨hk,hb,hc,hF⟩ ih;have hpl:=kz s.data.toList k hk;rw[SE,hm]at hpl
 iterate 2 refine a9 hF λ_ hF=>?_
 by_cases h8:k<8
 .refine aN true hF ?_ (hq:=decide_eq_true o_)
  iterate 14 refine a9 hF λ_ hF=>?_
  have e:IntKind.u8.wrap (((8*s.size:Nat):Int)/2^min ((56- 8*k:Nat):Int).toNat IntKind.i64.bits)=((UInt8.ofNat (8*s.size/256^(7- k))).toNat:Int):=by
   rw[IntKind.wrap_u8,show min ((56- 8*k:Nat):Int).toNat IntKind.i64.bits=56- 8*k from by show min ((56- 8*k:Nat):Int).toNat 64=_;omega,←I2 s.size k h8];rfl
  rw[e]at hF;refine Rn.st hF (hy:=by intro o ho;exact oA ho gx gx hc (by simp[bQ];omega) k_ rfl rfl) λw3 _ Wi hF=>?_;have h3:=Wi.here;rw[List.setIfInBounds_toArray,Nat.zero_add,O8]at h3;have e1:=Ed s.data.toList k h8 (UInt8.ofNat (8*s.size/256^(7- k))) (by rw[SE]);rw[SE,hm]at e1;rw[e1]at h3
  iterate 3 refine a9 hF λ_ hF=>?_
  exact fZ (ih (k+1) _ _ ⟨h8,hb.trans (Wi.below hg),h3,hF.O⟩ o_)
 .refine aN false hF ?_ (hq:=decide_eq_false o_);obtain rfl:k=8:=by omega
  rw[qU]at hc hpl;refine a9 hF λ_ hF=>?_;refine a9 hF (hy:=by intro o ho;exact jn (l:=s.data.toList++ic s.data.toList) ho gx hpl rfl k_ k_ hc (LR _)) λ_ hF=>?_;refine a9 hF λ_ hF=>?_;exact aL hF ⟨rfl,hb⟩
end

end Go.Proofs.YtkmoglhgkcnalaaGreatDoor
namespace Go.Proofs.YtkmoglhgkcnalaaGreatDoor
open Go Go.Conc Go.RowKit Go.Proofs.YtkmoglhgkcnalaaGreatDoor.L1
def dX:List Int:=[1116352408,1899447441,3049323471,3921009573,961987163,1508970993,2453635748,2870763221,3624381080,310598401,607225278,1426881987,1925078388,2162078206,2614888103,3248222580,3835390401,4022224774,264347078,604807628,770255983,1249150122,1555081692,1996064986,2554220882,2821834349,2952996808,3210313671,3336571891,3584528711,113926993,338241895,666307205,773529912,1294757372,1396182291,1695183700,1986661051,2177026350,2456956037,2730485921,2820302411,3259730800,3345764771,3516065817,3600352804,4094571909,275423344,430227734,506948616,659060556,883997877,958139571,1322822218,1537002063,1747873779,1955562222,2024104815,2227730452,2361852424,2428436474,2756734187,3204031479,3329325298]
theorem dx:dX.length=64:=by decide+kernel
theorem xU(L:List UInt8):(L++ic L).length=64*((L++ic L).length/64):=by
 rw[←qU,kz _ _ (Nat.le_refl _)];unfold ef;omega
def rx(k:Nat):List Int:=H0.take k++List.replicate (8- k) 0
theorem s9(k:Nat)(h:k<=8):(rx k).length=8:=by simp[rx,H0];omega
theorem yz(k:Nat)(h:k<8):(rx k).set k (H0.getD k 0)=rx (k+1):=by
 have:k=0\/k=1\/k=2\/k=3\/k=4\/k=5\/k=6\/k=7:=by omega
 rcases this with rfl|rfl|rfl|rfl|rfl|rfl|rfl|rfl<;>rfl
theorem mg:ip dX:=by
 intro i;by_cases h:i<64
 .have:∀i:Fin 64,Wd (dX.getD i.1 0):=by
   have:(List.range 64).all (λi=>decide (0<=dX.getD i 0/\dX.getD i 0<4294967296))=true:=(by decide+kernel);intro i;have:=List.all_eq_true.1 this i.1 s_;exact(of_decide_eq_true this:0<=dX.getD i.1 0/\dX.getD i.1 0<4294967296)
  exact this ⟨i,h⟩
 .rw[List.getD_eq_getElem?_getD,List.getElem?_eq_none (by rw[dx];omega)];exact NQ
theorem KD{o:Nat}{L:List Value}(h:w.rangeAt b o L)(h0:0<L.length):∃c t z,w.heap[b]?=some (.cells c t z)/\∀(j:Nat) (v:Value),L[j]?=some v->c[o+j]?=some v:=by
 obtain⟨c,e,f,q1,_,_⟩:=gC (h 0 _ (List.getElem?_eq_getElem h0));refine⟨c,e,f,q1,λj v hv=>?_⟩;obtain⟨c',e',f',r1,_,r3⟩:=gC (h j v hv);rw[show((⟨b,o+j,none⟩:Addr)).block=b from rfl,show w.heap[b]?=_ from q1]at r1;cases r1;exact r3
theorem Qp(H:List Int)(j:Nat)(h:j<H.length):(aP H)[j]?=some (.int .i64 (H.getD j 0)):=by simp[aP,h]
theorem xL(KS:List Int)(s:ByteArray)(hb TJ kb cap:Nat)(w:World)(QL:KS.length=64)(QX:ip KS)(hH:w.rangeAt hb 0 (aP H0))(hhb:hb<w.heap.size)(hK:w.rangeAt kb 0 (aP KS))(V8:kb<w.heap.size)
 (hs:s.size<=281474976710400):
 Cl kX 12 #[.agg #[.sk hb 8 TJ,.sk kb 64 cap],.string s] w
  λe w'=>e=.returned (.string ⟨(de KS s.data.toList).toArray⟩)/\Bw w w':=by
 obtain⟨cH,tH,zH,rH,hcH⟩:=KD hH (by simp[aP,H0]);have SE:s.data.toList.length=s.size:=Array.length_toList;refine av (L:=[.agg #[.sk hb 8 TJ,.sk kb 64 cap],.string s]) func12 rfl λcs a hF=>?_;refine Rn.am hF λgc w1 _ hgc QM R9 Wz hF=>?_;refine a9 hF λ_ hF=>?_;refine Rn.am hF λgh w2 _ hgh QN Rh hz2 hF=>?_
 replace R9:=bk QN R9
 have SR:=QM.size;have TC:=QN.size;refine a9 hF λ_ hF=>?_;refine gD (λk a w'=>k<=8/\Bw w w'/\w'.heap[gc]?=some (.cells #[.sk hb 8 TJ,.sk kb 64 cap] 26)/\w'.heap[gh]?=some (.cells (aP (rx k)).toArray 81)/\ay [(1,.string s),(2,.pk gc 0),(5,.pk gh 0),(6,.int .i64 (k:Int))] 55 [] a) (λk=>8- k) 0 ⟨by omega,ab QM QM.size QN,R9,Rh,hF.O⟩ ?_;clear hF R9 Rh;intro k a w' ⟨hk,Sj,R9,Rh,hF⟩ ih;have rH':=(Sj.block hb hhb).trans rH
 iterate 2 refine a9 hF λ_ hF=>?_
 by_cases QK:k<8
 .refine aN true hF ?_ (hq:=decide_eq_true o_);have y0:=hcH k _ (Qp H0 k QK);have hhl:=s9 k hk
  iterate 7 refine a9 hF λ_ hF=>?_
  refine Rn.st hF (hy:=by intro o ho;exact oA ho gx gx Rh (by simp[aP,hhl];omega) k_ rfl rfl) λw3 _ hp hF=>?_;have h3:=hp.here;rw[List.setIfInBounds_toArray,Nat.zero_add,O7,yz k QK]at h3
  iterate 3 refine a9 hF λ_ hF=>?_
  exact fZ (ih (k+1) _ _ ⟨QK,Sj.trans (hp.below o_),hp.keep R9 o_,h3,hF.O⟩ o_)
 refine aN false hF ?_ (hq:=decide_eq_false o_);obtain rfl:k=8:=by omega
 replace Rh:w'.heap[gh]?=some (.cells (aP H0).toArray 81):=Rh
 clear ih;refine a9 hF λ_ hF=>?_;refine gJ hF func34 (xT s _ hs) λw3 _ QW hF=>?_
 replace R9:=bk QW R9
 replace Rh:=bk QW Rh
 replace Sj:=ab Sj Sj.size QW
 clear rH';have hPl:(ByteArray.mk (s.data.toList++ic s.data.toList).toArray).size=(s.data.toList++ic s.data.toList).length:=by show(s.data.toList++ic s.data.toList).toArray.size=_;simp
 have hP64:=xU s.data.toList;have hPb:(s.data.toList++ic s.data.toList).length<=281474976710656:=by
  rw[←qU,kz _ _ (Nat.le_refl _),SE];unfold ef;omega
 have eS:de KS s.data.toList=(List.range 32).map (vG (bW KS (s.data.toList++ic s.data.toList) ((s.data.toList++ic s.data.toList).length/64))):=rfl;generalize s.data.toList++ic s.data.toList=P at hF hPl hP64 hPb eS;obtain⟨q,hq⟩:∃q,q=P.length/64:=⟨_,rfl⟩;rw[←hq]at hP64 eS;obtain⟨PB,hPB⟩:∃PB:ByteArray,PB=⟨P.toArray⟩:=⟨_,rfl⟩;rw[←hPB]at hPl hF;have hPD:PB.data.toList=P:=by rw[hPB]
 iterate 2 refine a9 hF λ_ hF=>?_
 refine gD (λk a w'=>k<=q/\Bw w w'/\w'.heap[gc]?=some (.cells #[.sk hb 8 TJ,.sk kb 64 cap] 26)/\w'.heap[gh]?=some (.cells (aP (bW KS P k)).toArray 81)/\ay [(2,.pk gc 0),(5,.pk gh 0),(7,.string PB),(8,.int .i64 ((64*k:Nat):Int))] 55 [] a) (λk=>q- k) 0 ⟨by omega,Sj,R9,Rh,hF.O⟩ ?_;clear hF R9 Rh Sj QW;intro k a w' ⟨hk,Sj,R9,Rh,hF⟩ ih
 iterate 4 refine a9 hF λ_ hF=>?_
 have hF8:(bW KS P k).length=8:=cT _ _ _;by_cases QK:k<q
 .refine aN true hF ?_ (hq:=decide_eq_true o_);have hFw:=uX KS P k;have hn:bW KS P (k+1)=lZ KS (bW KS P k) ((PB.data.toList.drop (64*k)).take 64):=by rw[hPD];rfl
  have hn8:(bW KS P (k+1)).length=8:=cT _ _ _;generalize bW KS P k=F at hF8 hFw hn Rh;refine a9 hF (hy:=by intro o ho;exact gi (vs:=[.sk hb 8 TJ,.sk kb 64 cap]) ho gx R9 rfl rfl k_ (λj u hu=>by simpa using hu)) λ_ hF=>?_;refine a9 hF (hy:=by intro o ho;exact gi (vs:=aP F) ho gx Rh rfl rfl (by rw[dt,hF8];kernel_rfl) (λj u hu=>by simpa using hu)) λ_ hF=>?_
  iterate 2 refine a9 hF λ_ hF=>?_
  refine gJ hF func35 (CG F KS PB (64*k) kb cap (.sk hb 8 TJ) w' hF8 hFw QL QX (bv Sj V8 hK) o_ o_) λw4 _ R0 hF=>?_;rw[←hn]at hF
  replace R9:=bk R0 R9
  replace Rh:=bk R0 Rh
  refine Rn.st hF (hy:=by intro o ho;exact dZ (vs:=(aP (bW KS P (k+1))).toArray) ho gx gx Rh (by rw[List.size_toArray,dt,hn8];kernel_rfl) (by simp[dt,hn8,hF8]) (ma _)) λw5 _ hp hF=>?_
  iterate 3 refine a9 hF λ_ hF=>?_
  exact fZ (ih (k+1) _ _ ⟨QK,(ab Sj Sj.size R0).trans (hp.below o_),hp.keep R9 o_,hp.here,hF.O⟩ o_)
 refine aN false hF ?_ (hq:=decide_eq_false o_);obtain rfl:k=q:=by omega
 clear ih;have hF0:=lL KS P k;generalize bW KS P k=H at hF8 Rh eS hF0;refine Rn.am hF (hy:=by intro o ho;exact ye (n:=32) ho gx gx rfl rfl rfl d_) λgo w5 _ hgo Rz TA hz5 hF=>?_;have hsb:=Sj.size
 replace Rh:=bk Rz Rh
 have lgh:=ar Rh
 iterate 2 refine a9 hF λ_ hF=>?_
 have QQ:gh≠go:=λe=>by
  subst e;rw[TA]at Rh;injection Rh with h;injection h with _ h2;exact absurd h2 d_
 refine gD (λj a w'=>j<=32/\Bw w w'/\w'.heap[gh]?=some (.cells (aP H).toArray 81)/\w'.heap[go]?=some (.cells (a_ H j).toArray 5)/\ay [(5,.pk gh 0),(9,.sk go 32 32),(10,.int .i64 (j:Int))] 55 [] a) (λj=>32- j) 0 ⟨by omega,ab Sj Sj.size Rz,Rh,TA,hF.O⟩ ?_;clear hF TA Rh Rz R9;intro j a w6 ⟨hj,hb6,Ue,TA,hF⟩ ih
 iterate 2 refine a9 hF λ_ hF=>?_
 by_cases QK:j<32
 .refine aN true hF ?_ (hq:=decide_eq_true o_);have hol:=oH H j hj;have y0:(aP H).toArray[0+j/4]?=some (.int .i64 (H.getD (j/4) 0)):=by rw[Nat.zero_add,List.getElem?_toArray];exact Qp H (j/4) o_
  iterate 13 refine a9 hF λ_ hF=>?_
  refine Rn.st hF (hy:=by intro o ho;exact oA ho gx gx TA (by simp[hol];omega) k_ rfl rfl) λw7 _ hp hF=>?_;have h6:=hp.here;rw[List.setIfInBounds_toArray,Nat.zero_add,vI H j QK _ (by rw[IntKind.wrap_u8,←vF H j _ rfl (hF0 _)];congr 3;show min ((24- j%4*8:Nat):Int).toNat 64=_;omega)]at h6
  iterate 3 refine a9 hF λ_ hF=>?_
  exact fZ (ih (j+1) _ _ ⟨QK,hb6.trans (hp.below o_),hp.keep Ue QQ,h6,hF.O⟩ o_)
 .refine aN false hF ?_ (hq:=decide_eq_false o_);obtain rfl:j=32:=by omega
  rw[vJ,←eS]at TA;refine a9 hF λ_ hF=>?_;refine a9 hF (hy:=by intro o ho;exact jn (l:=de KS s.data.toList) ho gx (by rw[eS];simp) rfl k_ k_ TA (LR _)) λ_ hF=>?_;refine a9 hF λ_ hF=>?_;exact aL hF ⟨rfl,hb6⟩

def bO(L:List UInt8)(a b:Nat):List UInt8:=(L.take b).drop a
theorem eP(L:List UInt8)(a b:Nat)(h:b<=L.length):(bO L a b).length=b- a:=by simp[bO];omega
theorem Cp(L:List UInt8)(a i:Nat)(h:a+i<L.length):bO L a (a+(i+1))=bO L a (a+i)++[L.getD (a+i) 0]:=by
 rw[bO,bO,show a+(i+1)=a+i+1 from by omega,List.take_succ_eq_append_getElem h,List.drop_append_of_le_length (by simp;omega),List.getD_eq_getElem?_getD,List.getElem?_eq_getElem h];rfl
def uC(v n i:Nat):List Value:=aZ ((bX v n).take i)++List.replicate (n- i) (.int .u8 0)
theorem A_(v n i:Nat)(h:i<=n):(uC v n i).length=n:=by simp[uC,aZ,bB];omega
theorem Db(v n:Nat):uC v n 0=List.replicate n (.int .u8 0):=by simp[uC,aZ]
theorem Kr(v n:Nat):uC v n n=aZ (bX v n):=by simp[uC,bB,List.take_of_length_le]
theorem Kq(v n i:Nat)(h:i<n)(x:Int)(hx:x=((v/256^(n- 1- i)%256:Nat):Int)):(uC v n i).set i (.int .u8 x)=uC v n (i+1):=by
 subst hx;have hg:=vM n v i h;obtain⟨hl,hg⟩:=List.getElem?_eq_some_iff.1 hg;rw[uC,uC,show n- i=(n-(i+1))+1 from by omega,List.replicate_succ,List.take_succ_eq_append_getElem hl,hg,List.set_append_right _ _ (by simp[aZ,bB];omega)];have e:i-(aZ ((bX v n).take i)).length=0:=by simp[aZ,bB];omega
 rw[e];simp[aZ]
theorem O2(v n i:Nat):(v:Int)/2^(8*(n- 1- i))%256=((v/256^(n- 1- i)%256:Nat):Int):=by
 rw[Int.pow_mul,show((2:Int)^8)=((256:Nat):Int)from by decide,←Int.natCast_pow,←Int.natCast_ediv,←show((256:Nat):Int)=256 from rfl,←Int.natCast_emod]
theorem Kp(v:Int)(V n i:Nat)(hV:(V:Int)=v%18446744073709551616)(hn:n<=8):v/2^(8*(n- 1- i))%256=((V/256^(n- 1- i)%256:Nat):Int):=by
 rw[←O2,hV];have hj:n- 1- i<=7:=by omega
 generalize n- 1- i=j at hj;rcases(by omega:j=0\/j=1\/j=2\/j=3\/j=4\/j=5\/j=6\/j=7)with rfl|rfl|rfl|rfl|rfl|rfl|rfl|rfl<;>simp<;>omega
def yr(L:List Int):Array (Nat×Operand):=(L.zipIdx.map λp=>(p.2,Operand.const (Value.int .i64 p.1))).toArray
section
variable{p:Bool}{A:Ax}
theorem zO{o:Oper}{L:List Int}(Va:∀v,ev (.const v)=v)(QH:o.op=.buildSlice 24 n (yr L)):execOp ev o=(do pure (.value (←Instr.buildSlice 24 n (L.zipIdx.map λp=>(p.2,Value.int .i64 p.1)).toArray))):=by
 have e:(yr L).map (λq:Nat×Operand=>(q.1,ev q.2))=(L.zipIdx.map λp=>(p.2,Value.int .i64 p.1)).toArray:=by
  rw[yr,List.map_toArray,List.map_map]
  congr 1
  exact List.map_congr_left λq _=>by simp[Va]
 simp only[execOp,QH];rw[←e]
theorem OA{o:Oper}(QH:o.op=.buildSlice 24 8 (yr H0)):NG prog a.eval o (λb=>.sk b 8 8) (.cells (aP H0).toArray 3):=λw=>by
 rw[zO (λ_=>rfl) QH];kernel_rfl
theorem PX{o:Oper}(QH:o.op=.buildSlice 24 64 (yr dX)):NG prog a.eval o (λb=>.sk b 64 64) (.cells (aP dX).toArray 3):=λw=>by
 rw[zO (λ_=>rfl) QH];kernel_rfl
theorem tV(w:World):Cl (cX prog p A) 8 #[] w λe w'=>∃hb kb,e=.returned (.agg #[.sk hb 8 8,.sk kb 64 64])/\w.heap.size<=hb/\w.heap.size<=kb/\w'.heap[hb]?=some (.cells (aP H0).toArray 3)/\w'.heap[kb]?=some (.cells (aP dX).toArray 3)/\Bw w w':=by
 refine ce (n:=2) func8 rfl rfl rfl k_ λcs=>bm (L:=[]) func8 rfl λa hF=>?_;refine Rn.am hF λg0 w1 _ h0 QM R9 _ hF=>?_;refine Rn.am (d:=3) (gd:=none) (p:=.buildSlice 24 8 (yr H0)) hF (h:=by kernel_rfl) (hy:=λo ho=>OA ho) λg1 w2 _ h1 QN Rh _ hF=>?_;refine a9 hF λ_ hF=>?_;refine Rn.am (d:=4) (gd:=none) (p:=.buildSlice 24 64 (yr dX)) hF (h:=by kernel_rfl) (hy:=λo ho=>PX ho) λg2 w3 _ h2 QW RN _ hF=>?_
 iterate 3 refine a9 hF λ_ hF=>?_
 have SR:=QM.size;have TC:=QN.size;have Uw:=QW.size
 replace R9:=bk QW (bk QN R9)
 replace Rh:=bk QW Rh
 have l1:=ar R9;refine a9 hF (v:=.agg #[.sk g1 8 8,.sk g2 64 64]) (hy:=by intro o ho;exact eA _ ho (gB hF rfl) (λ_=>by kernel_rfl)) λ_ hF=>?_;refine Rn.st hF (hy:=by intro o ho;exact dZ (vs:=#[.sk g1 8 8,.sk g2 64 64]) ho gx gx R9 k_ rfl (by simp[Value.oneCell'])) λw4 _ hp hF=>?_;refine AL hF hp.here rfl ?_;have n1:g0≠g1:=λe=>by
  subst e;rw[Rh]at R9;injection R9 with h;injection h with _ h2;exact absurd h2 d_
 have n2:g0≠g2:=λe=>by
  subst e;rw[RN]at R9;injection R9 with h;injection h with _ h2;exact absurd h2 d_
 exact⟨g1,g2,rfl,by omega,by omega,hp.keep Rh (Ne.symm n1),hp.keep RN (Ne.symm n2),(ab (ab QM SR QN) o_ QW).trans (hp.below h0)⟩
theorem jv(s:ByteArray)(a n:Nat)(w:World)(hn:n<=4)(ha:a+n<=s.size)(hs:s.size<=1125899906842624):
 Cl (cX prog p A) 37 #[.string s,.int .i64 (a:Int),.int .i64 (n:Int)] w λe w'=>e=.returned (.int .i64 (cM (bO s.data.toList a (a+n))))/\w'=w:=by
 have SE:s.data.toList.length=s.size:=Array.length_toList;refine av (L:=[.string s,.int .i64 (a:Int),.int .i64 (n:Int)]) func37 rfl λcs _ hF=>?_
 iterate 3 refine a9 hF λ_ hF=>?_
 refine gD (λk aa w'=>k<=n/\w=w'/\ay [(0,.string s),(1,.int .i64 (a:Int)),(2,.int .i64 (n:Int)),(7,.int .i64 (cM (bO s.data.toList a (a+k)))),(8,.int .i64 (k:Int))] 24 [] aa) (λk=>n- k) 0 ⟨Nat.zero_le _,rfl,hF.only ⟨rfl,rfl,rfl,congrArg (λz=>some (Value.int .i64 z)) (by rw[Nat.add_zero,bO,List.drop_eq_nil_of_le (by simp;omega)];rfl),rfl,trivial⟩⟩ ?_;clear hF;intro k aa w' ⟨hk,e,hF⟩ ih;subst e
 iterate 3 refine a9 hF λ_ hF=>?_
 by_cases QK:k<n
 .refine aN true hF ?_ (hq:=decide_eq_true o_);have hb:=i4 (bO s.data.toList a (a+k)) 3 (by rw[bO];simp;omega);have hN:cM (bO s.data.toList a (a+(k+1)))=256*cM (bO s.data.toList a (a+k))+(s[a+k].toNat:Int):=by
   rw[Cp _ _ _ (by rw[SE];omega),ly,List.getD_eq_getElem?_getD,List.getElem?_eq_getElem (by rw[SE];omega)];rfl
  have hx:=s[a+k].toNat_lt;obtain⟨y,ey⟩:=Int.eq_ofNat_of_zero_le hb.1;rw[ey]at hN hb;have QM:(y:Int)<16777216:=by simpa using hb.2
  have QN:256*y<9223372036854775808:=by omega
  replace hF:ay [(0,.string s),(1,.int .i64 (a:Int)),(7,.int .i64 (y:Int)),(8,.int .i64 (k:Int)),(2,.int .i64 (n:Int))] 24 [] _:=hF.only ⟨rfl,rfl,congrArg (λz=>some (Value.int .i64 z)) ey,rfl,rfl,trivial⟩
  iterate 2 refine a9 hF λ_ hF=>?_
  iterate 4 refine a9 hF λ_ hF=>?_
  refine a9 hF (hy:=by intro o ho;exact qE ho gx gx k_ o_) λ_ hF=>?_
  iterate 3 refine a9 hF λ_ hF=>?_
  iterate 3 refine a9 hF λ_ hF=>?_
  refine fZ (ih (k+1) _ _ ⟨QK,rfl,hF.only ⟨rfl,rfl,rfl,congrArg (λz=>some (Value.int .i64 z)) ?_,rfl,trivial⟩⟩ o_);rw[hN];show((256*y+s[a+k].toNat:Nat):Int)=_;omega
 .refine aN false hF ?_ (hq:=decide_eq_false o_);obtain rfl:k=n:=by omega
  iterate 2 refine a9 hF λ_ hF=>?_
  exact aL hF ⟨rfl,rfl⟩
theorem iF(v:Int)(V n:Nat)(w:World)(hn:n<=8)(hV:(V:Int)=v%18446744073709551616):
 Cl (cX prog p A) 29 #[.int .i64 v,.int .i64 (n:Int)] w λe w'=>e=.returned (.string ⟨(bX V n).toArray⟩)/\Bw w w':=by
 refine av (L:=[.int .i64 v,.int .i64 (n:Int)]) func29 rfl λcs _ hF=>?_
 iterate 2 refine a9 hF λ_ hF=>?_
 refine Rn.am hF λg w1 _ hg hb hc hz hF=>?_
 iterate 2 refine a9 hF λ_ hF=>?_
 refine gD (λi aa w'=>i<=n/\Bw w w'/\w'.heap[g]?=some (.cells (uC V n i).toArray 5)/\ay [(0,.int .i64 v),(1,.int .i64 (n:Int)),(5,.sk g n n),(6,.int .i64 (i:Int))] 27 [] aa) (λi=>n- i) 0 ⟨Nat.zero_le _,hb,by rw[Db];exact hc,hF.O⟩ ?_;clear hF hc hb;intro i aa w' ⟨hi,hb,hc,hF⟩ ih
 iterate 3 refine a9 hF λ_ hF=>?_
 by_cases QK:i<n
 .refine aN true hF ?_ (hq:=decide_eq_true o_);have QY:=A_ V n i hi
  iterate 11 refine a9 hF λ_ hF=>?_
  refine Rn.st hF (hy:=by intro o ho;exact oA ho gx gx hc (by simp[QY];omega) k_ rfl rfl) λw3 _ hp hF=>?_;have h3:=hp.here;rw[List.setIfInBounds_toArray,Nat.zero_add,Kq V n i QK _ (by rw[IntKind.wrap_u8,←Kp v V n i hV hn];congr 3;show min ((8*(n- 1- i):Nat):Int).toNat 64=_;omega)]at h3
  iterate 3 refine a9 hF λ_ hF=>?_
  exact fZ (ih (i+1) _ _ ⟨QK,hb.trans (hp.below hg),h3,hF.O⟩ o_)
 .refine aN false hF ?_ (hq:=decide_eq_false o_);obtain rfl:i=n:=by omega
  rw[Kr]at hc;refine a9 hF λ_ hF=>?_;refine a9 hF (hy:=by intro o ho;exact jn (l:=bX V i) ho gx (bB i V) rfl k_ k_ hc (LR _)) λ_ hF=>?_;refine a9 hF λ_ hF=>?_;exact aL hF ⟨rfl,hb⟩
theorem fD(v n:Nat)(w:World)(hn:n<=8)(h:v<9223372036854775808):
 Cl (cX prog p A) 29 #[.int .i64 (v:Int),.int .i64 (n:Int)] w λe w'=>e=.returned (.string ⟨(bX v n).toArray⟩)/\Bw w w':=iF v v n w hn o_
end

end Go.Proofs.YtkmoglhgkcnalaaGreatDoor
namespace Go.Proofs.YtkmoglhgkcnalaaGreatDoor.L1
open Go Go.Conc Go.RowKit Go.Proofs.YtkmoglhgkcnalaaGreatDoor
def uo(f:Func):Code:=.seq (.seq (rG f 4) (.cond (.tmp 14) .skip (.exit 2))) (.seq (.block 3 (.seq (rD f 6) (.cond (.tmp 30) .ret .skip))) (rG f 5))
def u0(f:Func):Code:=.seq (rG f 1) (.seq (.cond (.tmp 9) .skip (.exit 0)) (.seq (.block 1 (.seq (rG f 2) (.seq (rG f 3) (.block 2 (.loop (uo f)))))) (rG f 7)))
theorem N1:f129.body=some (.seq (rG f129 0) (.block 0 (.loop (u0 f129)))):=by kernel_rfl
def zn(wd k:Nat):Int:=8- wd- k*wd
theorem AG{k:Nat}(hw:nz wd)(hk:k<8/wd):zn wd k=((8- wd- k*wd:Nat):Int):=by
 unfold zn;rcases hw with rfl|rfl|rfl<;>simp at hk<;>omega
theorem Jw(hw:nz wd):¬zn wd (8/wd)≥0:=by
 unfold zn;rcases hw with rfl|rfl|rfl<;>decide
theorem FJ(wd k:Nat):zn wd k- wd=zn wd (k+1):=by
 unfold zn;rw[Int.natCast_add,Int.add_mul];omega
theorem tj{k:Nat}(hw:nz wd)(hk:k<=8/wd): -9<=zn wd k/\zn wd k<9:=by
 unfold zn;rcases hw with rfl|rfl|rfl<;>simp at hk<;>omega
theorem AD(b:ByteArray)(i:Nat)(h:i<b.size):b[i]=b.data.toList.getD i 0:=by
 rw[List.getD_eq_getElem?_getD,List.getElem?_eq_getElem (by simpa using h)];rfl
section
variable{Inv:Nat->World->Prop}{l:Nat}{r:Loop}{b:ByteArray}{bb bw:Nat}(hw:nz wd)
 (Ui:∀c w,Inv c w->w.heap[bb]?=some (.cells #[.string b] 9)) (TW:∀c w,Inv c w->w.heap[bw]?=some (.cells #[.int .i64 wd] 3))
 (G:pc kX Goal cs (λc=>#[.int .i64 (cy b.data.toList wd c)]) (b.size*(8/wd)) l r Inv)
include hw Ui TW G
theorem LX{k:Nat}(hi:i<b.size)(hk:k<8/wd)(hI:Inv (i*(8/wd)+k) w)
 (hF:ay [(0,.func (.yield l) #[] #[]),(1,.pk bb 0),(2,.pk bw 0),(4,.int .i64 i),(5,.int .i64 (zn wd k)),(7,.int .i64 b.size),(8,.int .i64 i)] 32 [] a)
 (next:∀a w,Inv (i*(8/wd)+k+1) w->ay [(30,.bool false),(0,.func (.yield l) #[] #[]),(1,.pk bb 0),(2,.pk bw 0),(4,.int .i64 i),(5,.int .i64 (zn wd k)),(7,.int .i64 b.size),(8,.int .i64 i)] 32 [] a->Rn kX Goal ((base 129).atR a K) cs w):
 Rn kX Goal ((base 129).atR a (.code (rD f129 6)::K)) cs w:=by
 have SJ:0<8/wd:=by omega
 have hc:i*(8/wd)+k<b.size*(8/wd):=by
  have:(i+1)*(8/wd)<=b.size*(8/wd):=Nat.mul_le_mul_right _ hi;rw[Nat.add_mul]at this;omega
 have hx:(b.data.toList.getD i 0).toNat<256:=(b.data.toList.getD i 0).toNat_lt;have hsm:=tj hw (Nat.le_of_lt hk);have hnat:=AG hw hk;have TR:cy b.data.toList wd (i*(8/wd)+k)=(b.data.toList.getD i 0).toNat/2^(8- wd- k*wd)%2^wd:=by
  rw[J5 _ hw i k hk (by simpa using hi)];rw[List.getD_eq_getElem?_getD,List.getElem?_eq_getElem (by simpa using hi)];rfl
 have Sv:wd<=8:=by rcases hw with rfl|rfl|rfl<;>decide
 have WF:=lR hw;have h2w:2^wd<=256:=by rcases hw with rfl|rfl|rfl<;>decide
 have h2t:cj wd=2^wd- 1:=rfl;have hp:(1:Int)*2^wd=((2^wd:Nat):Int):=by rw[Int.one_mul,Int.natCast_pow];rfl
 have WI:((2^wd:Nat):Int)- 1=(cj wd:Int):=by rw[h2t];have:=Nat.two_pow_pos wd;omega
 refine FY 11 hF ?_;refine Gx.q ?_;refine Gx.q ?_ (y:=λo a w ho z=>(an bN ho gx ((ak (Ui _ _ (G.below _ _ _ hI z.b)) 0).trans rfl)).1);refine Gx.q ?_;refine Gx.q ?_ (y:=λo a w ho z=>(qO ho gx gx hi).trans (by rw[AD b i hi]));refine Gx.q ?_ (y:=λo a w ho z=>li ho gx);refine Gx.q ?_;refine Gx.q ?_ (v:=.int .i64 (((b.data.toList.getD i 0).toNat/2^(8- wd- k*wd):Nat):Int)) (y:=λo a w ho z=>(qM (k:=8- wd- k*wd) ho gx (Eq.trans gx (by rw[hnat])) o_).trans (by rw[Int.natCast_ediv,Int.natCast_pow];rfl));refine Gx.q ?_ (y:=λo a w ho z=>(an az ho gx ((ak (TW _ _ (G.below _ _ _ hI z.b)) 0).trans rfl)).1);refine Gx.q ?_ (y:=λo a w ho z=>(gk (m:=1) (k:=wd) ho rfl gx o_ (by rw[hp];omega)).trans (by rw[hp]));refine Gx.q ?_ (v:=.int .i64 (cj wd)) (y:=λo a w ho z=>WI▸lT ho gx rfl o_);refine Gx.q ?_ (v:=.int .i64 (cy b.data.toList wd (i*(8/wd)+k))) (y:=λo a w ho z=>(dD ho gx gx).trans (by rw[AH _ wd (Nat.lt_of_le_of_lt (Nat.div_le_self _ _) o_) hw,←TR]));refine Gx.e λa w' hF hb _ rest hgo=>?_;refine wV (c:=i*(8/wd)+k) G hF 29 18 (xs:=#[.tmp 28]) (ats:=#[3]) d_ k_ rfl (by simp[hF.g 28]) hc (G.below _ _ _ hI hb) λa w' hF hI=>hgo _ _ λrest hgo=>?_;exact a9 hF λa hF=>hgo _ _ (next a w' hI (hF.only ⟨rfl,rfl,rfl,rfl,rfl,rfl,rfl,rfl,trivial⟩))
theorem yx(hi:i<b.size)(next:∀a w,Inv ((i+1)*(8/wd)) w->ay [(0,.func (.yield l) #[] #[]),(1,.pk bb 0),(2,.pk bw 0),(7,.int .i64 b.size),(8,.int .i64 i)] 32 [] a->Rn kX Goal ((base 129).atR a K) cs w):
 ∀(j k:Nat) (a:Act) (w:World),8/wd- k=j->k<=8/wd->Inv (i*(8/wd)+k) w->
  ay [(0,.func (.yield l) #[] #[]),(1,.pk bb 0),(2,.pk bw 0),(4,.int .i64 i),(5,.int .i64 (zn wd k)),(7,.int .i64 b.size),(8,.int .i64 i)] 32 [] a->
  Rn kX Goal ((base 129).atR a (.code (uo f129):: .inLoop (uo f129):: .inBlock 2::K)) cs w:=by
 intro j;induction j with
 |zero=>
  intro k a w hj hk hI hF;have SK:k=8/wd:=by omega
  subst SK
  iterate 2 refine a9 hF λa hF=>?_
  refine Rn.plain rfl (Rn.cond _ (hF.g 14) ?_);rw[decide_eq_false (Jw hw)];refine Rn.plain rfl (next a w ?_ (hF.only ⟨rfl,rfl,rfl,rfl,rfl,trivial⟩));rw[Nat.add_mul,Nat.one_mul];exact hI
 |succ j ih=>
  intro k a w hj hk hI hF;have SK:k<8/wd:=by omega
  have hsm:=tj hw hk;have Sv:wd<=8:=by rcases hw with rfl|rfl|rfl<;>decide
  iterate 2 refine a9 hF λa hF=>?_
  refine Rn.plain rfl (Rn.cond _ (hF.g 14) ?_);rw[decide_eq_true (show zn wd k≥0 from by rw[AG hw SK];omega)];refine Rn.plain rfl (Rn.plain rfl (Rn.plain rfl (Rn.plain rfl ?_)));refine LX hw Ui TW G hi SK hI (hF.only ⟨rfl,rfl,rfl,rfl,rfl,rfl,rfl,trivial⟩) λa w hI hF=>?_;refine Rn.cond false (hF.g 30) (Rn.plain rfl (Rn.plain rfl (Rn.region (L:=[0,1,2,3]) rfl ?_)));refine a9 hF λa hF=>?_;refine af hF (λo ho=>(an az ho (hF.g 2) ((ak (TW _ _ hI) 0).trans rfl)).1) λa hF=>?_
  iterate 2 refine a9 hF λa hF=>?_
  refine Rn.plain rfl (Rn.plain rfl (ih (k+1) a w o_ o_ hI (hF.only ⟨rfl,rfl,rfl,rfl,?_,rfl,rfl,trivial⟩)));rw[←FJ];rfl
theorem xW(hs:b.size<4611686018427387904)(next:∀a w,Inv (b.size*(8/wd)) w->a.defers=[]->Rn kX Goal ((base 129).atR a K) cs w):
 ∀(j i:Nat) (a:Act) (w:World),b.size- i=j->i<=b.size->Inv (i*(8/wd)) w->
  ay [(0,.func (.yield l) #[] #[]),(1,.pk bb 0),(2,.pk bw 0),(7,.int .i64 b.size),(8,.int .i64 i)] 32 [] a->
  Rn kX Goal ((base 129).atR a (.code (u0 f129):: .inLoop (u0 f129):: .inBlock 0::K)) cs w:=by
 intro j;induction j with
 |zero=>
  intro i a w hj hi hI hF;have SS:i=b.size:=by omega
  subst SS;refine a9 hF λa hF=>?_;refine Rn.plain rfl (Rn.plain rfl (Rn.cond _ (hF.g 9) ?_));rw[decide_eq_false o_];exact Rn.plain rfl (next a w hI hF.defers)
 |succ j ih=>
  intro i a w hj hi hI hF;have SS:i<b.size:=by omega
  have Sv:wd<=8:=by rcases hw with rfl|rfl|rfl<;>decide
  refine a9 hF λa hF=>?_;refine Rn.plain rfl (Rn.plain rfl (Rn.cond _ (hF.g 9) ?_));rw[decide_eq_true o_]
  iterate 2 refine a9 hF λa hF=>?_
  refine af hF (λo ho=>(an az ho (hF.g 2) ((ak (TW _ _ hI) 0).trans rfl)).1) λa hF=>?_
  iterate 2 refine a9 hF λa hF=>?_
  refine Rn.plain rfl (Rn.plain rfl (Rn.plain rfl ?_));refine yx hw Ui TW G SS (λa w hI hF=>?_) (8/wd) 0 a w rfl (Nat.zero_le _) hI (hF.only ⟨rfl,rfl,rfl,rfl,?_,rfl,rfl,trivial⟩)
  .iterate 2 refine a9 hF λa hF=>?_
   refine Rn.plain rfl (Rn.plain rfl (ih (i+1) a w o_ o_ hI (hF.only ⟨rfl,rfl,rfl,rfl,?_,trivial⟩)));rw[Int.natCast_add];rfl
  .unfold zn;simp
end
theorem oV{Inv:Nat->World->Prop}{l:Nat}{r:Loop}{b:ByteArray}{bb bw:Nat}(hw:nz wd)(hs:b.size<4611686018427387904)
 (Ui:∀c w,Inv c w->w.heap[bb]?=some (.cells #[.string b] 9)) (TW:∀c w,Inv c w->w.heap[bw]?=some (.cells #[.int .i64 wd] 3))
 (G:pc kX Goal (cf::cs) (λc=>#[.int .i64 (cy b.data.toList wd c)]) (b.size*(8/wd)) l r Inv) {w:World} (hI:Inv 0 w)
 (Rw:∀w,Inv (b.size*(8/wd)) w->Rn kX Goal (cf.finish (.tuple #[])) cs w):
 Rn kX Goal (Frame.enter prog 129 #[.func (.yield l) #[] #[],.pk bb 0,.pk bw 0] .normal) (cf::cs) w:=by
 refine bm (N:=32) func129 N1 λa hF=>?_;refine af hF (λo ho=>(an bN ho (hF.g 1) ((ak (Ui _ _ hI) 0).trans rfl)).1) λa hF=>?_;refine a9 hF λa hF=>?_;refine NC hF 8 (.int .i64 0) d_ k_ λa hF=>?_;refine Rn.plain rfl (Rn.plain rfl (Rn.plain rfl ?_));refine xW hw Ui TW G hs (λa w hI hd=>?_) b.size 0 a w rfl (Nat.zero_le _) (by rw[Nat.zero_mul];exact hI) (hF.only ⟨rfl,rfl,rfl,rfl,rfl,trivial⟩);exact Rn.ends rfl (.inl rfl) (g_ rfl hd func129 (Rw w hI))

section
variable{base:Nat}{e:TypeId}{size:Nat}
theorem je(h:w.ownsRow base e size v n xs){o:Obj}(ho:w.heap[b]?=some o)(QQ:∀cur,o≠ .cells cur e (0,0)):some b≠v.ownBlock:=λq=>by
 rcases h.2 with⟨rfl,_⟩|⟨g,cap,cur,rfl,_,hg,_⟩
 .cases q
 .cases q;rw[ho]at hg;cases hg;exact QQ _ rfl
theorem fC(h:w.ownsRow base e size v n xs)(hs:∀g,v.ownBlock=some g->w'.heap[g]?=w.heap[g]?):w'.ownsRow base e size v n xs:=by
 refine⟨h.1,?_⟩;rcases h.2 with h|⟨g,cap,cur,rfl,h1,hg,h2⟩
 .exact .inl h
 .exact .inr ⟨g,cap,cur,rfl,h1,(hs g rfl).trans hg,h2⟩
theorem oO{row:Option Nat}(h:Below N w0 w)(hg:w.grownBy w' row)(hrow:∀k,row=some k->N<=k)(hN:N<=w.heap.size):Below N w0 w':=
 ⟨hg.os.trans h.os,hg.tape.trans h.tape,hg.output.trans h.output,Nat.le_trans h.size hg.size,λk hk=>(hg.block k o_ (λq=>by have:=hrow k q.symm;omega)).trans (h.block k hk)⟩
end
structure Ap (ti ts:TypeId) (D:Nat->Value) (b2 l ld:Nat) (r:Loop) (w0:World) (c:Nat) (w:World):Prop where
 old:Bw w0 w
 row:∃v,w.heap[b2]?=some (.cells #[v] ts)/\w.ownsRow w0.heap.size ti 1 v c ((List.range c).map D)
 loop:w.heap[l]?=some (.loop r)
 list:w.heap[ld]?=some (.deferred (some []))
theorem Ap.below{ti ts:TypeId}{D:Nat->Value}{l ld:Nat}{r:Loop}{c:Nat}(h:Ap ti ts D b2 l ld r w0 c w)(hb:Bw w w'):Ap ti ts D b2 l ld r w0 c w':=by
 have g:∀{b:Nat} {o:Obj},w.heap[b]?=some o->w'.heap[b]?=some o:=λ{b o} ho=>(hb.block b (Array.getElem?_eq_some_iff.1 ho).1).trans ho;obtain⟨v,h1,h2⟩:=h.row;exact⟨ab h.old h.old.size hb,⟨v,g h1,fC h2 λk hk=>hb.block k (h2.lt k hk).2⟩,g h.loop,g h.list⟩
def uR(f:Func)(T:Array Value)(ld:Nat)(st:LoopState):Loop:={state:=st,pending:=none,fn:=130,tmps:=T,params:=#[7],assign:=.region 2 (bC f 2) false,body:=.block 1 (rG f 3),defers:=ld}
theorem N0:f130.body=some (.seq (rG f130 0) (.seq (.seq (rG f130 1) (.block 0 (.rangeFunc (.tmp 6) #[7] (rG f130 2) (.block 1 (rG f130 3)))))
 (.seq (rG f130 4) .ret))):=by kernel_rfl
theorem v_:∃i,prog.info? 3=some i/\i.zero=some (.int .i64 0)/\i.size=1/\i.bytes=8:=by
 have h:(prog.info? 3).map (λi=>(i.zero,i.size,i.bytes))=some (some (.int .i64 0),1,8):=by kernel_rfl
 obtain⟨i,hi,hz⟩:=Option.map_eq_some_iff.1 h;simp only[Prod.mk.injEq]at hz;exact⟨i,hi,hz.1,hz.2.1,hz.2.2⟩
theorem DW{o:Oper}{i:Int}(QH:o.op=.buildSlice 24 1 #[(0,x)])(hx:ev x=.int .i64 i):
 (execOp ev o).run prog w=.ok (.value (.sk w.heap.size 1 1)) (w.alloc (.cells #[.int .i64 i] 3)):=by
 have e:execOp ev o=(do pure (.value (←Instr.buildSlice 24 1 #[(0,.int .i64 i)]))):=by simp[execOp,QH,hx]
 have h2:(do pure (.value (←Instr.buildSlice 24 1 #[(0,.int .i64 i)])):Sem Next).run prog w=.ok (.value (.sk w.heap.size 1 1)) (w.alloc (.cells #[.int .i64 i] 3)):=by kernel_rfl
 rw[e,h2]
section
variable{T:Array Value}{l ld:Nat}{d:Nat->Int}
theorem GX(hT:ay [(2,.pk b2 0)] 13 [] ⟨T,[]⟩)(QN:w0.heap.size<=b2)(hl:w0.heap.size<=l){c:Nat}(hc:c<1000000)(hI:Ap 3 24 (λi=>.int .i64 (d i)) b2 l ld (uR f130 T ld .ready) w0 c w)
 (next:∀w',Ap 3 24 (λi=>.int .i64 (d i)) b2 l ld (uR f130 T ld .ready) w0 (c+1) w'->Rn kX Goal (cf.finish (.bool true)) cs w'):
 Rn kX Goal (Frame.round l 130 (((#[7]:Array Tmp).zip #[.int .i64 (d c)]).foldl (λtmps (t,a)=>tmps.setIfInBounds t a) T) (rG f130 2) (.block 1 (rG f130 3)) .normal) (cf::cs) w:=by
 have hF:=hT.put (d:=7) d_ (.int .i64 (d c));have ez:((#[7]:Array Tmp).zip #[.int .i64 (d c)]).foldl (λ(tmps:Array Value) (x:Tmp×Value)=>match x with|(t,a)=>tmps.setIfInBounds t a) T=T.setIfInBounds 7 (.int .i64 (d c)):=by simp
 rw[ez];show Rn _ Goal ((rb 130 l).atR (Act.put ⟨T,[]⟩ (some 7) (.int .i64 (d c))) [.code (rG f130 2),.beginRound,.code (.block 1 (rG f130 3))]) (cf::cs) w;revert hF;generalize Act.put ⟨T,[]⟩ (some 7) (.int .i64 (d c))=a;intro hF;refine Rn.region (L:=[0]) rfl (rT hF 5 7 d_ rfl k_ λa hF=>?_);refine Rn.plain rfl (iI (r:=uR f130 T ld .ready) rfl hI.loop rfl ?_);obtain⟨v,hv,Ra⟩:=hI.row;have n2l:b2≠l:=λe=>by subst e;rw[hI.loop]at hv;cases hv
 have ndl:ld≠l:=λe=>by subst e;have:=hI.list;rw[hI.loop]at this;cases this
 have n2d:ld≠b2:=λe=>by subst e;have:=hI.list;rw[hv]at this;cases this
 have RH:(aO w l (uR f130 T ld .busy)).heap[b2]?=some (.cells #[v] 24):=(aF w _ n2l).trans hv;have WR:(aO w l (uR f130 T ld .busy)).heap[l]?=some (.loop (uR f130 T ld .busy)):=fP hI.loop;have hd1:(aO w l (uR f130 T ld .busy)).heap[ld]?=some (.deferred (some [])):=(aF w _ ndl).trans hI.list;have Uz:(aO w l (uR f130 T ld .busy)).ownsRow w0.heap.size 3 1 v c ((List.range c).map λi=>.int .i64 (d i)):=fC Ra λg hg=>aF w _ λe=>je Ra hI.loop (by intro cur q;cases q) (by rw[←e];exact hg.symm);have UA:Bw w0 (aO w l (uR f130 T ld .busy)):=hI.old.trans (dk w l _ hl);show Rn _ Goal _ _ (aO w l (uR f130 T ld .busy));revert RH WR hd1 Uz UA;generalize aO w l (uR f130 T ld .busy)=w1;intro RH WR hd1 Uz UA
 iterate 2 refine a9 hF λa hF=>?_
 refine af hF (λo ho=>DW ho (hF.g 9)) λa hF=>?_;have U7:=aD w1 (.cells #[.int .i64 (d c)] 3);have g:∀{b:Nat} {o:Obj},w1.heap[b]?=some o->(w1.alloc (.cells #[.int .i64 (d c)] 3)).heap[b]?=some o:=λ{b o} ho=>(U7.block b (Array.getElem?_eq_some_iff.1 ho).1).trans ho;have V3:=g RH;have Up:=g WR;have hd2:=g hd1;have SN:(w1.alloc (.cells #[.int .i64 (d c)] 3)).ownsRow w0.heap.size 3 1 v c ((List.range c).map λi=>.int .i64 (d i)):=fC Uz λk hk=>U7.block k (Uz.lt k hk).2;have Tx:Bw w0 (w1.alloc (.cells #[.int .i64 (d c)] 3)):=ab UA UA.size U7;have SC:=aK w1 (.cells #[.int .i64 (d c)] 3);obtain⟨ti,hti,hz,QY,Wm⟩:=v_;refine dF (d:=11) (R:=λv' w3=>w3.ownsRow w0.heap.size 3 1 v' (c+1) (((List.range c).map λi=>.int .i64 (d i))++[.int .i64 (d c)])/\w3.heap[b2]?=some (.cells #[v] 24)/\w3.heap[l]?=some (.loop (uR f130 T ld .busy))/\w3.heap[ld]?=some (.deferred (some []))/\Bw w0 w3) hF (λo e2 e=>?_) λv' w3 ⟨Sz,hv3,hl3,hd3,SO⟩ a hF=>?_
 .have h:=run_append_own (P:=prog) {w1.alloc (.cells #[.int .i64 (d c)] 3)with drawn:=e} w0.heap.size 24 o.type 3 ti (.int .i64 0) 1 8 k_ hti hz QY Wm rfl d_ v c _ SN ⟨w1.heap.size,0,none⟩ 1 1 [.int .i64 (d c)] rfl
   (λj u hj=>by
     have hj0:j=0:=(by have:=(List.getElem?_eq_some_iff.1 hj).1;simp at this;omega);subst hj0;cases hj;rw[fO];exact(ak SC 0).trans rfl) (λu hu=>by simp at hu;subst hu;rfl) (by simp only[maxLen];omega) o_ Tx.size
  obtain⟨v',w3,Q_,Sz,Ud,_⟩:=h;have q2:=je SN V3 (by intro cur q;cases q);have ql:=je SN Up (by intro cur q;cases q);have qd:=je SN hd2 (by intro cur q;cases q);refine⟨v',w3,?_,Sz,(Ud.block b2 (Array.getElem?_eq_some_iff.1 V3).1 q2).trans V3,(Ud.block l (Array.getElem?_eq_some_iff.1 Up).1 ql).trans Up,(Ud.block ld (Array.getElem?_eq_some_iff.1 hd2).1 qd).trans hd2,oO (w:={w1.alloc (.cells #[.int .i64 (d c)] 3)with drawn:=e}) ⟨Tx.os,Tx.tape,Tx.output,Tx.size,Tx.block⟩ Ud (λk hk=>(SN.lt k hk).1) Tx.size⟩;exact tO e2 (hF.g 8) (hF.g 10) Q_
 have QU:v'.cells=#[v']/\v'.oneCell'=true:=by
  rcases Sz.2 with⟨rfl,_⟩|⟨g,cap,cur,rfl,_⟩<;>exact⟨rfl,rfl⟩
 refine aM hF (λo ho=>(dr (w:=w3) (b:=b2) (k:=0) (v:=v') (v0:=v) QU.1 QU.2 k_ ho (hF.g 2) (hF.g 11) ((ak hv3 0).trans rfl) (by simp[World.frozen?,hv3])).1) λa hF=>?_;refine Rn.plain rfl (Rn.plain rfl ?_);have hl4:(w3.setCell ⟨b2,0,none⟩ v').heap[l]?=some (.loop (uR f130 T ld .busy)):=(br w3 _ (Ne.symm n2l)).trans hl3;refine gZ rfl rfl hl4 (next _ ⟨?_,⟨v',(aF _ _ n2l).trans (jb hv3),?_⟩,fP hl4,(aF _ _ ndl).trans ((br w3 _ n2d).trans hd3)⟩)
 .exact(SO.trans (cN _ _ _ QN)).trans (dk _ _ _ hl)
 .rw[List.range_succ,List.map_append];refine fC Sz λk hk=>?_;have k1:k≠l:=λe=>je Sz hl3 (by intro cur q;cases q) (by rw[←e];exact hk.symm);have k2:k≠b2:=λe=>je Sz hv3 (by intro cur q;cases q) (by rw[←e];exact hk.symm);exact(aF _ _ k1).trans (br w3 _ k2)
end
def j5(b:ByteArray)(wd n:Nat):List Value:=(List.range n).map λi=>.int .i64 (cy b.data.toList wd i)
theorem GG(b:ByteArray)(wd bb bw:Nat)(w:World)(hw:nz wd)(hs:b.size<=1000)(Xo:w.heap[bb]?=some (.cells #[.string b] 9))(hbw:w.heap[bw]?=some (.cells #[.int .i64 wd] 3)):
 Cl kX 130 #[.slice none 0 0,.func (.func 129) #[] #[.pk bb 0,.pk bw 0]] w λe w'=>∃v,e=.returned v/\w'.ownsRow w.heap.size 3 1 v (b.size*(8/wd)) (j5 b wd (b.size*(8/wd)))/\Bw w w':=by
 refine av (N:=13) func130 N0 λcs a hF=>?_;refine Rn.gr ?_;refine fG hF 2 0 24 d_ rfl k_ λa hF=>?_;show Rn _ _ _ _ (w.alloc (.cells #[.slice none 0 0] 24))
 iterate 2 refine a9 hF λa hF=>?_
 have hsz1:=ao w (.cells #[.slice none 0 0] 24);have QM:=aD w (.cells #[.slice none 0 0] 24);have h21:=aK w (.cells #[.slice none 0 0] 24);have hbb1:=(QM.block bb (Array.getElem?_eq_some_iff.1 Xo).1).trans Xo;have hbw1:=(QM.block bw (Array.getElem?_eq_some_iff.1 hbw).1).trans hbw;revert hsz1 QM h21 hbb1 hbw1;generalize w.alloc (.cells #[.slice none 0 0] 24)=w1;intro hsz1 QM h21 hbb1 hbw1;refine Rn.plain rfl (Rn.plain rfl ?_);refine iW (uR f130 a.tmps w1.heap.size .ready) (args:=#[.func (.yield (w1.heap.size+1)) #[] #[],.pk bb 0,.pk bw 0]) rfl rfl func129 k_ k_ (hF.g 6) s_ ?_;have hltb:=(Array.getElem?_eq_some_iff.1 Xo).1;have hltw:=(Array.getElem?_eq_some_iff.1 hbw).1;have SJ:8/wd<=4:=by rcases hw with rfl|rfl|rfl<;>decide
 have hn:b.size*(8/wd)<=4000:=Nat.le_trans (Nat.mul_le_mul hs SJ) d_;have hT:ay [(2,.pk w.heap.size 0)] 13 [] ⟨a.tmps,[]⟩:=⟨rfl,hF.size,(hF.only (G:=[(2,.pk w.heap.size 0)]) ⟨rfl,trivial⟩).slot⟩;have G:∀Goal,pc kX Goal (((base 130).atR ⟨a.tmps,{target:=.collected w1.heap.size,args:=#[]}::a.defers⟩ (.inRangeFunc (w1.heap.size+1)::[.inBlock 0,.code (.seq (rG f130 4) .ret)]))::cs) (λc=>#[.int .i64 (cy b.data.toList wd c)]) (b.size*(8/wd)) (w1.heap.size+1) (uR f130 a.tmps w1.heap.size .ready)
  (Ap 3 24 (λi=>.int .i64 (cy b.data.toList wd i:Nat)) w.heap.size (w1.heap.size+1) w1.heap.size (uR f130 a.tmps w1.heap.size .ready) w):=
  λGoal=>
  {below:=λc w w' h hb=>h.below hb
   loop:=λc w h=>h.loop
   size:=λc=>rfl
   round:=λc w' cf hc hI next=>GX (d:=λc=>(cy b.data.toList wd c:Nat)) hT (Nat.le_refl _) o_ o_ hI next}
 refine oV hw o_ (λc w' h=>(h.old.block bb hltb).trans Xo) (λc w' h=>(h.old.block bw hltw).trans hbw) (G _) ⟨ab QM o_ (fh w1 _),⟨.slice none 0 0,(aX w1 _ o_).trans h21,World.ownsRow_nil _ _ _ _⟩,dJ w1 _,dK w1 _⟩ λw2 hI=>?_;show Rn _ _ ((base 130).atR ⟨a.tmps,{target:=.collected w1.heap.size,args:=#[]}::a.defers⟩ (.endRangeFunc (w1.heap.size+1)::_)) cs w2;refine fm hI.loop rfl rfl ?_;obtain⟨v,hv,Ra⟩:=hI.row;have hG:ay [(2,.pk w.heap.size 0)] 13 [{target:=.collected w1.heap.size,args:=#[]}] ⟨a.tmps,{target:=.collected w1.heap.size,args:=#[]}::a.defers⟩:=⟨by rw[hF.defers],hF.size,hT.slot⟩;revert hG;generalize (Act.mk a.tmps ({target:=.collected w1.heap.size,args:=#[]}::a.defers))=a2;intro hG;have hld:=(aF w2 (l:=w1.heap.size+1) (b:=w1.heap.size) {uR f130 a.tmps w1.heap.size .ready with state:=.exhausted} o_).trans hI.list;have hv3:=(aF w2 (l:=w1.heap.size+1) (b:=w.heap.size) {uR f130 a.tmps w1.heap.size .ready with state:=.exhausted} o_).trans hv;refine Rn.gr ?_;refine Rn.op hG 12 (.load 24 (.tmp 2)) d_ k_ s_ (λo ho=>(an mO ho (hG.g 2) ((ak hv3 0).trans rfl)).1) λa3 hG=>?_;refine rT hG 4 12 d_ rfl k_ λa4 hG=>?_;refine Rn.plain rfl (Rn.ends rfl (.inr ⟨_,rfl⟩) (Rn.take (ds:=[]) hG.defers hld (Rn.now ⟨⟨a4.tmps,[]⟩,_,v,rfl,rfl,hG.slot 4 _ rfl,v,rfl,?_,?_⟩)))
 .refine fC Ra λk hk=>?_;have k1:k≠w1.heap.size+1:=λe=>je Ra hI.loop (by intro cur q;cases q) (by rw[←e];exact hk.symm);have k2:k≠w1.heap.size:=λe=>je Ra hI.list (by intro cur q;cases q) (by rw[←e];exact hk.symm);show(Array.setIfInBounds _ _ _)[k]?=_;rw[Array.getElem?_setIfInBounds_ne (Ne.symm k2)];exact aF _ _ k1
 .exact(hI.old.trans (dk _ _ _ o_)).trans (eR _ _ o_)
theorem N5:f109.body=some (.seq (rG f109 0) (.seq (rG f109 1) .ret)):=by kernel_rfl
theorem wG(b:ByteArray)(wd bb bw:Nat)(w:World)(hw:nz wd)(hs:b.size<=1000)(Xo:w.heap[bb]?=some (.cells #[.string b] 9))(hbw:w.heap[bw]?=some (.cells #[.int .i64 wd] 3)):
 Cl kX 109 #[.func (.func 129) #[] #[.pk bb 0,.pk bw 0]] w λe w'=>∃v,e=.returned v/\w'.ownsRow w.heap.size 3 1 v (b.size*(8/wd)) (j5 b wd (b.size*(8/wd)))/\Bw w w':=by
 refine av (N:=5) func109 N5 λcs a hF=>?_
 iterate 2 refine a9 hF λa hF=>?_
 refine bf hF func130 (GG b wd bb bw w hw hs Xo hbw) λv w' hv a hF=>?_;refine a9 hF λa hF=>?_;exact aL hF ⟨v,rfl,hv⟩
theorem N6:f107.body=some (.seq (rG f107 0) (.seq (rG f107 1) .ret)):=by kernel_rfl
theorem rK(b:ByteArray)(wd:Nat)(w:World):
 Cl kX 107 #[.string b,.int .i64 wd] w λe w'=>e=.returned (.func (.func 129) #[] #[.pk w.heap.size 0,.pk (w.heap.size+1) 0])/\w'=(w.alloc (.cells #[.string b] 9)).alloc (.cells #[.int .i64 wd] 3):=by
 refine av (N:=6) func107 N6 λcs a hF=>?_;refine Rn.gr ?_;refine fG hF 2 0 9 d_ rfl k_ λa hF=>?_;show Rn _ _ _ _ (w.alloc (.cells #[.string b] 9));refine fG hF 3 1 3 d_ rfl k_ λa hF=>?_;rw[ao]at hF;show Rn _ _ _ _ ((w.alloc (.cells #[.string b] 9)).alloc (.cells #[.int .i64 wd] 3));refine a9 hF λa hF=>?_;refine Rn.gr ?_;refine Rn.op hF 5 (.makeFunc (.func 129) #[] #[.tmp 2,.tmp 3]) (v:=.func (.func 129) #[] #[.pk w.heap.size 0,.pk (w.heap.size+1) 0]) (w':=(w.alloc (.cells #[.string b] 9)).alloc (.cells #[.int .i64 wd] 3)) d_ k_ s_ (λo ho=>?_) λa hF=>?_
 .have h:=(dG prog (w:=(w.alloc (.cells #[.string b] 9)).alloc (.cells #[.int .i64 wd] 3)) (ev:=a.eval) ho).1;rw[h];simp[hF.g 2,hF.g 3]
 refine a9 hF λa hF=>?_;exact aL hF ⟨rfl,rfl⟩

structure Sm (ts tk ti:TypeId) (Q:ByteArray) (wd:Nat) (key:Array Value) (r:Loop) (w0:World) (S:Nat) (w:World):Prop where
 old:Bw w0 w
 key:w.heap[w0.heap.size]?=some (.cells key tk)
 five:w.heap[w0.heap.size+1]?=some (.cells #[.int .i64 S] ti)
 str:w.heap[w0.heap.size+2]?=some (.cells #[.string Q] ts)
 wid:w.heap[w0.heap.size+3]?=some (.cells #[.int .i64 wd] ti)
 list:w.heap[w0.heap.size+4]?=some (.deferred (some []))
 loop:w.heap[w0.heap.size+5]?=some (.loop r)
section
variable{ts tk ti:TypeId}{Q:ByteArray}{key:Array Value}{r:Loop}{S:Nat}
theorem Sm.below(h:Sm ts tk ti Q wd key r w0 S w)(hb:Bw w w'):Sm ts tk ti Q wd key r w0 S w':=by
 have g:∀{b:Nat} {o:Obj},w.heap[b]?=some o->w'.heap[b]?=some o:=λ{b o} ho=>(hb.block b (Array.getElem?_eq_some_iff.1 ho).1).trans ho;exact⟨ab h.old h.old.size hb,g h.key,g h.five,g h.str,g h.wid,g h.list,g h.loop⟩
theorem Sm.turn(h:Sm ts tk ti Q wd key r w0 S w)(r':Loop):Sm ts tk ti Q wd key r' w0 S (aO w (w0.heap.size+5) r'):=
 ⟨h.old.trans (dk w _ _ o_),(aF w _ o_).trans h.key,(aF w _ o_).trans h.five,(aF w _ o_).trans h.str,(aF w _ o_).trans h.wid,(aF w _ o_).trans h.list,fP h.loop⟩
theorem Sm.put(h:Sm ts tk ti Q wd key r w0 S w)(S':Nat):Sm ts tk ti Q wd key r w0 S' (w.setCell ⟨w0.heap.size+1,0,none⟩ (.int .i64 S')):=
 ⟨h.old.trans (cN w _ _ (by show _<=w0.heap.size+1;omega)),(br w _ (by show _≠w0.heap.size+1;omega)).trans h.key,jb h.five,(br w _ (by show _≠w0.heap.size+1;omega)).trans h.str,(br w _ (by show _≠w0.heap.size+1;omega)).trans h.wid,(br w _ (by show _≠w0.heap.size+1;omega)).trans h.list,(br w _ (by show _≠w0.heap.size+1;omega)).trans h.loop⟩
end
def xh(f:Func)(T:Array Value)(ld:Nat)(st:LoopState):Loop:={state:=st,pending:=none,fn:=90,tmps:=T,params:=#[12],assign:=.region 3 (bC f 3) false,body:=.block 1 (rD f 4),defers:=ld}
theorem N9:f90.body=some (.seq (rG f90 0) (.seq (rG f90 1) (.seq (.seq (rG f90 2) (.block 0 (.rangeFunc (.tmp 11) #[12] (rG f90 3) (.block 1 (rD f90 4)))))
 (.seq (rG f90 5) (.seq (rD f90 6) .ret))))):=by kernel_rfl
section
variable{o:Oper}{y:Operand}
theorem lc(j:Nat)(hj:j<8)(QH:o.op=.fieldAddr 115 x j)(hx:ev x=.pk b 0):(execOp ev o).run prog w=.ok (.value (.pk b j)) w:=by
 have e:execOp ev o=(do pure (.value (←Instr.fieldAt 115 (.pk b 0) j))):=by simp only[execOp,QH,hx]
 have h2:(do pure (.value (←Instr.fieldAt 115 (.pk b 0) j)):Sem Next).run prog w=.ok (.value (.pk b j)) w:=by
  rcases(by omega:j=0\/j=1\/j=2\/j=3\/j=4\/j=5\/j=6\/j=7)with rfl|rfl|rfl|rfl|rfl|rfl|rfl|rfl<;>kernel_rfl
 rw[e,h2]
theorem E0{g:Addr}{len cap:Nat}(QH:o.op=.slice 24 x none (some y) none)(hx:ev x=.slice (some g) len cap)(hy:ev y=.int .i64 n)(h:n<=cap):(execOp ev o).run prog w=.ok (.value (.slice (some g) n cap)) w:=by
 have hu:prog.underlying 24=some (.slice 3):=by kernel_rfl
 have hz:∀w:World,(sizeOf 3).run prog w=.ok 1 w:=λw=>by kernel_rfl
 simp[execOp,QH,hx,hy,Instr.sliceAt,Instr.slice,Instr.sliceBounds,run_underlying hu,Instr.sliceBound,asIntOf,h,hz,go_sem]
end
section
variable{T:Array Value}{s:eD}{Q:ByteArray}
theorem G_(hw:nz wd)(Sv:s.width=wd)(hT:ay [(2,.pk w0.heap.size 0),(5,.pk (w0.heap.size+1) 0)] 34 [] ⟨T,[]⟩){c:Nat}(hc:c<1000000)
 (hI:Sm 9 115 3 Q wd s.key (xh f90 T (w0.heap.size+4) .ready) w0 (eF Q.data.toList wd c) w)
 (next:∀w',Sm 9 115 3 Q wd s.key (xh f90 T (w0.heap.size+4) .ready) w0 (eF Q.data.toList wd (c+1)) w'->Rn kX Goal (cf.finish (.bool true)) cs w'):
 Rn kX Goal (Frame.round (w0.heap.size+5) 90 (((#[12]:Array Tmp).zip #[.int .i64 (cy Q.data.toList wd c)]).foldl (λtmps (t,a)=>tmps.setIfInBounds t a) T) (rG f90 3) (.block 1 (rD f90 4)) .normal) (cf::cs) w:=by
 have hF:=hT.put (d:=12) d_ (.int .i64 (cy Q.data.toList wd c));have ez:((#[12]:Array Tmp).zip #[.int .i64 (cy Q.data.toList wd c)]).foldl (λ(tmps:Array Value) (x:Tmp×Value)=>match x with|(t,a)=>tmps.setIfInBounds t a) T=T.setIfInBounds 12 (.int .i64 (cy Q.data.toList wd c)):=by simp
 rw[ez];show Rn _ Goal ((rb 90 (w0.heap.size+5)).atR (Act.put ⟨T,[]⟩ (some 12) (.int .i64 (cy Q.data.toList wd c))) [.code (rG f90 3),.beginRound,.code (.block 1 (rD f90 4))]) (cf::cs) w;revert hF;generalize Act.put ⟨T,[]⟩ (some 12) (.int .i64 (cy Q.data.toList wd c))=a;intro hF;refine Rn.region (L:=[0]) rfl (rT hF 6 12 d_ rfl k_ λa hF=>?_);refine Rn.plain rfl (iI (r:=xh f90 T (w0.heap.size+4) .ready) rfl hI.loop rfl ?_);have Ve:=hI.turn (xh f90 T (w0.heap.size+4) .busy);show Rn _ Goal _ _ (aO w (w0.heap.size+5) (xh f90 T (w0.heap.size+4) .busy));revert Ve;generalize aO w (w0.heap.size+5) (xh f90 T (w0.heap.size+4) .busy)=w1;intro Ve;have hS:=mj Q.data.toList hw c;have WF:=lR hw;have hdt:=kL Q.data.toList wd c;have hF:ay [(2,.pk w0.heap.size 0),(5,.pk (w0.heap.size+1) 0),(6,.int .i64 (cy Q.data.toList wd c))] 34 [] a:=hF.only ⟨rfl,rfl,rfl,trivial⟩;refine Rn.plain rfl ?_;refine gI 6 hF ?_;refine Gx.q ?_ (y:=λo a w ho z=>(an az ho gx ((ak (Ve.below z.b).five 0).trans rfl)).1);refine Gx.q ?_ (y:=λo a w ho z=>fQ (s:=s) ho gx (Ve.below z.b).key λ_ _=>rfl);refine Gx.k func108 (λw _ _=>top_any s wd Sv (by rcases hw with rfl|rfl|rfl<;>decide) w) ?_;refine Gx.q ?_;refine Gx.q ?_ (y:=λo a w ho z=>ix ho gx gx hdt o_);refine Gx.q ?_ (v:=.int .i64 (eF Q.data.toList wd (c+1))) (y:=λo a w ho z=>aI ho gx gx o_);refine Gx.e λa w' hF hb _ rest hgo=>?_;have hI:=Ve.below hb;refine aM hF (λo ho=>(dr (w:=w') (b:=w0.heap.size+1) (k:=0) (v:=.int .i64 (eF Q.data.toList wd (c+1))) (v0:=.int .i64 (eF Q.data.toList wd c)) rfl rfl k_ ho (hF.g 5) (hF.g 18) ((ak hI.five 0).trans rfl) (by simp[World.frozen?,hI.five])).1) λa _=>hgo _ _ ?_;have hI:=hI.put (eF Q.data.toList wd (c+1));exact Rn.plain rfl (gZ rfl rfl hI.loop (next _ (hI.turn _)))
end

def im(n:Nat)(d:Nat->Nat)(v:Value)(w:World):Prop:=∃gb cap,v=.sk gb n cap/\gb<w.heap.size/\∀c,c<n->w.cell? ⟨gb,c,none⟩=some (.int .i64 (d c))
theorem im.mono{d:Nat->Nat}(h:im n d v w)(hb:Bw w w'):im n d v w':=by
 obtain⟨gb,cap,rfl,QK,h⟩:=h;refine⟨gb,cap,rfl,Nat.lt_of_lt_of_le QK hb.size,λc hc=>?_⟩;rw[←h c hc];unfold World.cell?;rw[show w'.heap[(⟨gb,c,none⟩:Addr).block]?=_ from hb.block gb QK]
section
variable{s:eD}{al:ByteArray}
theorem LY(hw:nz wd)(Sv:s.width=wd)(hn:s.count=n)(hal:al.size<=1000)(SA:1<=n)(RV:n<=al.size*(8/wd))(Sg:w.heap[N]?=some (.cells s.key 115))
 (hF:ay [(2,.pk N 0),(7,.string al)] 34 ds a)
 (next:∀a w' v,im n (λc=>cy al.data.toList wd c) v w'->Bw w w'->ay [(4,v)] 34 ds a->Rn kX Goal ((base 90).atR a K) cs w'):
 Rn kX Goal ((base 90).atR a (.code (rD f90 6)::K)) cs w:=by
 refine bY hF ?_
 iterate 2 refine Gx.q ?_
 refine Gx.q ?_ (v:=.int .i64 wd) (y:=λo a w ho z=>(an az ho gx ((ak (bk z.b Sg) 5).trans (by rw[←Sv];rfl))).1);refine Gx.t [.inr λv w=>∃p,v=.func (.func 129) #[] #[.pk p 0,.pk (p+1) 0]/\w.heap[p]?=some (.cells #[.string al] 9)/\w.heap[p+1]?=some (.cells #[.int .i64 wd] 3),.inr λv w=>∃B,w.ownsRow B 3 1 v (al.size*(8/wd)) (j5 al wd (al.size*(8/wd))),.inl (.pk N 6),.inl (.int .i64 n),.inr (im n λc=>cy al.data.toList wd c),.inr (im n λc=>cy al.data.toList wd c)] ?_;refine CW (λ_ _ _ ⟨p,h1,h2,h3⟩ hb=>⟨p,h1,bk hb h2,bk hb h3⟩) func107 (λw' _ _=>(rK al wd w').mono λe Rb h=>⟨_,h.1,⟨w'.heap.size,rfl,?_,?_⟩,?_⟩) λu=>?_
 .rw[h.2];exact(bp _ _ (by rw[ao];omega)).trans (aK w' _)
 .have:=aK (w'.alloc (.cells #[.string al] 9)) (.cells #[.int .i64 wd] 3)
  rwa [ao,←h.2]at this
 .rw[h.2];exact ab (aD w' _) (by rw[ao];omega) (aD _ _)
 refine CW (λ_ _ _ ⟨B,h⟩ hb=>⟨B,fC h λk hk=>hb.block k (h.lt k hk).2⟩) func109 (λw' _ hM=>?_) λu=>?_
 .obtain⟨p,rfl,h1,h2⟩:=hM.1 k_;exact(wG al wd p (p+1) w' hw hal h1 h2).mono λe Rb ⟨v,h1,h2,h3⟩=>⟨v,h1,⟨_,h2⟩,h3⟩
 refine Gw.q ?_;refine Gw.q ?_ (y:=λo a w ho z=>(an az ho gx ((ak (bk z.b Sg) 6).trans (by rw[←hn];rfl))).1);refine uP (λ_ _ _=>im.mono) (λv=>?_) (y:=λo a w ho z=>?_)
 rotate_left
 .obtain⟨B,Ra⟩:=(z.m _ (Below.refl _ _)).1 k_;rcases Ra.2 with⟨_,h0⟩|⟨g,cap,cur,rfl,_,hg,hnc,_,TL,TY⟩
  .omega
  refine⟨_,w,E0 ho gx gx o_,⟨g,cap,rfl,(Array.getElem?_eq_some_iff.1 hg).1,λc hc=>?_⟩,Below.refl _ _⟩;rw[ak hg];have hl:c<al.size*(8/wd):=by omega
  have h1:(cur.toList.take (al.size*(8/wd)*1))[c]?=(j5 al wd (al.size*(8/wd)))[c]?:=by rw[TY]
  rw[List.getElem?_take_of_lt o_]at h1;rw[←Array.getElem?_toList,h1];simp[j5,hl]
 exact uP (λ_ _ _=>im.mono) (λv=>Gw.e λa w' hF hb hM=>next a w' v (hM.1 rfl) hb (hF.only ⟨rfl,trivial⟩)) (y:=λo a w ho z=>⟨v,w,tZ ho gx,(z.m _ (Below.refl _ _)).1 k_,Below.refl _ _⟩)
end
theorem uB(s:eD)(wd sh n:Nat)(Q:ByteArray)(w:World)(hw:nz wd)(Sv:s.width=wd)(hsh:s.shift=sh)(XN:sh<=8)(hn:s.count=n)(SA:1<=n)(RV:n<=34*(8/wd))(hQ:Q.size=32):
 Cl kX 90 #[.agg s.key,.string Q] w λe w'=>∃v,e=.returned v/\im n (λc=>cy (ik Q.data.toList wd sh) wd c) v w'/\Bw w w':=by
 refine av (N:=34) func90 N9 λcs a hF=>?_;have h256:Q.size*(8/wd)=256/wd:=by rw[hQ];rcases hw with rfl|rfl|rfl<;>decide
 refine Rn.gr ?_;refine fG hF 2 0 115 d_ rfl k_ λa hF=>?_;show Rn _ _ _ _ (w.alloc (.cells s.key 115));refine a9 hF λa hF=>?_;refine af hF (λo ho=>(jQ ho).1) λa hF=>?_;rw[ao]at hF;have h5:=aK (w.alloc (.cells s.key 115)) (.cells #[.int .i64 0] 3);rw[ao]at h5;have h2:=(bp (w.alloc (.cells s.key 115)) (.cells #[.int .i64 0] 3) (b:=w.heap.size) (by rw[ao];omega)).trans (aK w _);have QN:Bw w ((w.alloc (.cells s.key 115)).alloc (.cells #[.int .i64 0] 3)):=ab (aD w _) (by rw[ao];omega) (aD _ _);have TC:((w.alloc (.cells s.key 115)).alloc (.cells #[.int .i64 0] 3)).heap.size=w.heap.size+2:=by rw[ao,ao]
 revert h5 h2 QN TC;generalize (w.alloc (.cells s.key 115)).alloc (.cells #[.int .i64 0] 3)=w2;intro h5 h2 QN TC;refine aM hF (λo ho=>(dr (w:=w2) (b:=w.heap.size+1) (k:=0) (v:=.int .i64 0) (v0:=.int .i64 0) rfl rfl k_ ho (hF.g 5) rfl ((ak h5 0).trans rfl) (by simp[World.frozen?,h5])).1) λa hF=>?_;have h5':=jb (v:=.int .i64 0) h5;have Yo:=(br w2 (a:=⟨w.heap.size+1,0,none⟩) (b:=w.heap.size) (.int .i64 0) (by show _≠w.heap.size+1;omega)).trans h2;have U7:Bw w (w2.setCell ⟨w.heap.size+1,0,none⟩ (.int .i64 0)):=QN.trans (cN w2 _ _ (by show _<=w.heap.size+1;omega));have VI:(w2.setCell ⟨w.heap.size+1,0,none⟩ (.int .i64 0)).heap.size=w.heap.size+2:=by rw[←TC];simp[World.setCell]
 revert h5' Yo U7 VI;generalize w2.setCell ⟨w.heap.size+1,0,none⟩ (.int .i64 0)=w3;intro h5' Yo U7 VI;refine Rn.gr ?_;refine oY hF 8 1 d_ rfl k_ λa hF=>?_;refine af hF (λo ho=>lc 5 d_ ho (hF.g 2)) λa hF=>?_;refine af hF (λo ho=>(an (v:=.int .i64 wd) az ho (hF.g 9) ((ak Yo 5).trans (by rw[←Sv];rfl))).1) λa hF=>?_;refine bH hF func107 ((rK Q wd w3)) λw4 hw4 a hF=>?_;rw[VI]at hF;have R0:Bw w3 w4:=by rw[hw4];exact ab (aD w3 _) (by rw[ao];omega) (aD _ _)
 have Uk:w4.heap.size=w.heap.size+4:=by rw[hw4,ao,ao,VI]
 have k2:w4.heap[w.heap.size+2]?=some (.cells #[.string Q] 9):=by
  rw[hw4,←VI];exact(bp _ _ (by rw[ao];omega)).trans (aK w3 _)
 have k3:w4.heap[w.heap.size+3]?=some (.cells #[.int .i64 wd] 3):=by
  rw[hw4,show w.heap.size+3=w3.heap.size+1 from by omega];have:=aK (w3.alloc (.cells #[.string Q] 9)) (.cells #[.int .i64 wd] 3);rw[ao]at this;exact this
 have k0:=(R0.block _ o_).trans Yo;have k1:=(R0.block _ o_).trans h5';have hold4:Bw w w4:=ab U7 o_ R0;clear hw4 h5' Yo U7 R0 h5 h2 QN TC;refine Rn.plain rfl (Rn.plain rfl ?_);refine iW (xh f90 a.tmps w4.heap.size .ready) (args:=#[.func (.yield (w4.heap.size+1)) #[] #[],.pk (w.heap.size+2) 0,.pk (w.heap.size+2+1) 0]) rfl rfl func129 k_ k_ (hF.g 11) s_ ?_;have hI0:Sm 9 115 3 Q wd s.key (xh f90 a.tmps (w.heap.size+4) .ready) w (eF Q.data.toList wd 0) (bU w4 (xh f90 a.tmps w4.heap.size .ready)):=by
  have hl:=dJ w4 (xh f90 a.tmps w4.heap.size .ready);have hd:=dK w4 (xh f90 a.tmps w4.heap.size .ready);rw[Uk]at hl hd⊢;exact⟨ab hold4 o_ (fh w4 _),(aX w4 _ o_).trans k0,(aX w4 _ o_).trans k1,(aX w4 _ o_).trans k2,(aX w4 _ o_).trans k3,hd,hl⟩
 rw[Uk]at hI0⊢;have hT:ay [(2,.pk w.heap.size 0),(5,.pk (w.heap.size+1) 0)] 34 [] ⟨a.tmps,[]⟩:=⟨rfl,hF.size,(hF.only (G:=[(2,.pk w.heap.size 0),(5,.pk (w.heap.size+1) 0)]) ⟨rfl,rfl,trivial⟩).slot⟩;have hcnt:Q.size*(8/wd)<=128:=by rw[hQ];rcases hw with rfl|rfl|rfl<;>decide
 have G:∀Goal,pc kX Goal (((base 90).atR ⟨a.tmps,{target:=.collected (w.heap.size+4),args:=#[]}::a.defers⟩ (.inRangeFunc (w.heap.size+4+1)::[.inBlock 0,.code (.seq (rG f90 5) (.seq (rD f90 6) .ret))]))::cs) (λc=>#[.int .i64 (cy Q.data.toList wd c)]) (Q.size*(8/wd)) (w.heap.size+4+1) (xh f90 a.tmps (w.heap.size+4) .ready)
  (λc=>Sm 9 115 3 Q wd s.key (xh f90 a.tmps (w.heap.size+4) .ready) w (eF Q.data.toList wd c)):=
  λGoal=>
  {below:=λc w w' h hb=>h.below hb
   loop:=λc w h=>h.loop
   size:=λc=>rfl
   round:=λc w' cf hc hI next=>G_ hw Sv hT o_ hI next}
 refine oV hw o_ (λc w' h=>h.str) (λc w' h=>h.wid) (G _) hI0 λw5 hI=>?_;show Rn _ _ ((base 90).atR ⟨a.tmps,{target:=.collected (w.heap.size+4),args:=#[]}::a.defers⟩ (.endRangeFunc (w.heap.size+4+1)::_)) cs w5;refine fm hI.loop rfl rfl ?_;have hI6:=hI.turn (xh f90 a.tmps (w.heap.size+4) .exhausted);show Rn _ _ _ _ (aO w5 (w.heap.size+4+1) (xh f90 a.tmps (w.heap.size+4) .exhausted));have hG:ay [(1,.string Q),(2,.pk w.heap.size 0),(5,.pk (w.heap.size+1) 0)] 34 [{target:=.collected (w.heap.size+4),args:=#[]}] ⟨a.tmps,{target:=.collected (w.heap.size+4),args:=#[]}::a.defers⟩:=⟨by rw[hF.defers],hF.size,(hF.only (G:=[(1,.string Q),(2,.pk w.heap.size 0),(5,.pk (w.heap.size+1) 0)]) ⟨rfl,rfl,rfl,trivial⟩).slot⟩;revert hG hI6;generalize aO w5 (w.heap.size+4+1) (xh f90 a.tmps (w.heap.size+4) .exhausted)=w6;generalize (Act.mk a.tmps ({target:=.collected (w.heap.size+4),args:=#[]}::a.defers))=a2;intro hI6 hG;have hS:=mj Q.data.toList hw (Q.size*(8/wd));have hSm:eF Q.data.toList wd (Q.size*(8/wd))<=32640:=by omega
 have h2s:2^sh<=256:=Nat.le_trans (Nat.pow_le_pow_right d_ XN) d_;have hmul:eF Q.data.toList wd (Q.size*(8/wd))*2^sh<=32640*256:=Nat.mul_le_mul hSm h2s;have U6:(eF Q.data.toList wd (Q.size*(8/wd)):Int)*2^sh=((eF Q.data.toList wd (Q.size*(8/wd))*2^sh:Nat):Int):=by rw[Int.natCast_mul,Int.natCast_pow];rfl
 refine a9 hG λa hG=>?_;refine af hG (λo ho=>(an az ho (hG.g 5) ((ak hI6.five 0).trans rfl)).1) λa hG=>?_;refine a9 hG λa hG=>?_;refine af hG (λo ho=>(an (v:=.int .i64 sh) az ho (hG.g 21) ((ak hI6.key 7).trans (by rw[←hsh];rfl))).1) λa hG=>?_;refine af hG (λo ho=>gk (k:=sh) ho (hG.g 20) (hG.g 22) o_ (by rw[U6];omega)) λa hG=>?_;rw[U6]at hG;refine bf hG func92 (R:=λv w'=>v=.string ⟨(bX (eF Q.data.toList wd (Q.size*(8/wd))*2^sh) 2).toArray⟩/\Bw w6 w') ((u16_any _ o_ w6).mono λe w' h=>⟨_,h.1,rfl,h.2⟩) λv w7 hv a hG=>?_;obtain⟨rfl,SP⟩:=hv;have QY:(Q++(⟨(bX (eF Q.data.toList wd (Q.size*(8/wd))*2^sh) 2).toArray⟩:ByteArray)).size=34:=by rw[ByteArray.size_append,hQ,jz]
 have RP:(Q++(⟨(bX (eF Q.data.toList wd (Q.size*(8/wd))*2^sh) 2).toArray⟩:ByteArray)).data.toList=ik Q.data.toList wd sh:=by
  simp[ik,h256]
 refine af hG (λo ho=>cn ho (hG.g 19) (hG.g 24) (by rw[hQ,jz];decide)) λa hG=>?_;refine a9 hG λa hG=>?_;have hI7:=hI6.below SP;refine Rn.plain rfl (Rn.plain rfl ?_);refine LY (n:=n) hw Sv hn o_ SA (by rw[QY];exact RV) hI7.key (hG.only ⟨rfl,rfl,trivial⟩) λa8 w8 v Si VZ hG=>?_;have hI8:=hI7.below VZ;rw[RP]at Si;refine Rn.ends rfl (.inr ⟨_,rfl⟩) (Rn.take (ds:=[]) hG.defers hI8.list (Rn.now ⟨⟨a8.tmps,[]⟩,_,v,rfl,rfl,hG.slot 4 _ rfl,v,rfl,?_,hI8.old.trans (eR _ _ o_)⟩));obtain⟨gb,cap,rfl,QK,hc⟩:=Si;refine⟨gb,cap,rfl,by simpa using QK,λc WU=>?_⟩;have QQ:gb≠w.heap.size+4:=λe=>by
  have:=hc c WU;subst e;unfold World.cell? at this;simp only[hI8.list]at this;cases this
 refine(World.cell?_of_block (w:=w8) (a:=⟨gb,c,none⟩) ?_).trans (hc c WU);exact Array.getElem?_setIfInBounds_ne (Ne.symm QQ)

def ju(p:ByteArray):Nat->ByteArray
 |0=>p
 |c+1=>(ju p c).extract 32 (ju p c).size
theorem qR(p:ByteArray):∀c,(ju p c).size=p.size- 32*c
 |0=>rfl
 |c+1=>by
  have:=qR p c;simp only[ju,ByteArray.size_extract];omega
def bZ(n:Nat):Nat->Nat
 |0=>n
 |c+1=>bZ n c/2
theorem mS(n:Nat):∀c,bZ n c=n/2^c
 |0=>by simp[bZ]
 |c+1=>by rw[bZ,mS n c,Nat.div_div_eq_div_mul,Nat.pow_succ]
theorem BP{h c:Nat}(hn:2^h<=n)(hc:c<h):1<bZ n c:=by
 rw[mS];refine(Nat.le_div_iff_mul_le (Nat.two_pow_pos c)).2 ?_;have:2^(c+1)<=2^h:=Nat.pow_le_pow_right d_ hc;rw[Nat.pow_succ]at this;omega
theorem BQ{h:Nat}(hn:n<2^(h+1)):¬1<bZ n h:=by
 rw[mS];have:n/2^h<2:=Nat.div_lt_of_lt_mul (by rw[Nat.pow_succ]at hn;exact hn);omega
theorem mR(n:Nat):∀c,bZ n c<=n
 |0=>Nat.le_refl _
 |c+1=>by
  have:=mR n c;simp only[bZ];omega
def ym(f:Func):Code:=.seq (.seq (rG f 2) (.cond (.tmp 10) .skip (.exit 0))) (.seq (.block 1 (.seq (.seq (rG f 4) (.cond (.tmp 18) .ret .skip)) (rG f 5))) (rG f 3))
theorem N2:f122.body=some (.seq (rG f122 0) (.seq (rG f122 1) (.block 0 (.loop (ym f122))))):=by kernel_rfl
section
variable{o:Oper}{y:Operand}
theorem D_(QH:o.op=.fieldAddr 119 x 4)(hx:ev x=.pk b 0):(execOp ev o).run prog w=.ok (.value (.pk b 11)) w:=by
 have e:execOp ev o=(do pure (.value (←Instr.fieldAt 119 (.pk b 0) 4))):=by simp only[execOp,QH,hx]
 have h2:(do pure (.value (←Instr.fieldAt 119 (.pk b 0) 4)):Sem Next).run prog w=.ok (.value (.pk b 11)) w:=by kernel_rfl
 rw[e,h2]
theorem l0{t:ByteArray}(QH:o.op=.slice 9 x none (some y) none)(hx:ev x=.string t)(hy:ev y=.int .i64 n)(h:n<=t.size):(execOp ev o).run prog w=.ok (.value (.string (t.extract 0 n))) w:=by
 have hu:prog.underlying 9=some .string:=by kernel_rfl
 simp[execOp,QH,hx,hy,Instr.sliceAt,Instr.slice,Instr.sliceBounds,run_underlying hu,Instr.sliceBound,asIntOf,h]
theorem kY{t:ByteArray}(QH:o.op=.slice 9 x (some y) none none)(hx:ev x=.string t)(hy:ev y=.int .i64 n)(h:n<=t.size):(execOp ev o).run prog w=.ok (.value (.string (t.extract n t.size))) w:=by
 have hu:prog.underlying 9=some .string:=by kernel_rfl
 simp[execOp,QH,hx,hy,Instr.sliceAt,Instr.slice,Instr.sliceBounds,run_underlying hu,Instr.sliceBound,asIntOf,h]
end
section
variable{Inv:Nat->World->Prop}{l:Nat}{r:Loop}{p:ByteArray}{h:Nat}(hp:p.size=32*h)(hn:2^h<=n)(RV:n<2^(h+1))(hn3:n<9223372036854775808)
 (G:pc kX Goal cs (λc=>#[.int .i64 (bZ n c),.string ((ju p c).extract 0 32)]) h l r Inv)
include hp hn RV hn3 G
theorem BX(next:∀a w,Inv h w->a.defers=[]->Rn kX Goal ((base 122).atR a K) cs w):
 ∀(j c:Nat) (a:Act) (w:World),h- c=j->c<=h->Inv c w->ay [(0,.func (.yield l) #[] #[]),(4,.string (ju p c)),(5,.int .i64 (bZ n c))] 21 [] a->
  Rn kX Goal ((base 122).atR a (.code (ym f122):: .inLoop (ym f122):: .inBlock 0::K)) cs w:=by
 intro j;induction j with
 |zero=>
  intro c a w hj hc hI hF;have TS:c=h:=by omega
  subst TS
  iterate 2 refine a9 hF λa hF=>?_
  refine Rn.plain rfl (Rn.cond _ (hF.g 10) ?_);rw[decide_eq_false (by have:=BQ RV;omega)];exact Rn.plain rfl (next a w hI hF.defers)
 |succ j ih=>
  intro c a w hj hc hI hF;have TS:c<h:=by omega
  have h2:=BP hn TS;have hle:=mR n c;have QY:=qR p c
  iterate 2 refine a9 hF λa hF=>?_
  refine Rn.plain rfl (Rn.cond _ (hF.g 10) ?_);rw[decide_eq_true o_]
  iterate 3 refine a9 hF λa hF=>?_
  refine af hF (λo ho=>l0 (n:=32) ho (hF.g 15) rfl o_) λa hF=>?_;refine wV (c:=c) G hF 17 13 (xs:=#[.tmp 14,.tmp 16]) (ats:=#[3,9]) d_ k_ rfl (by simp[hF.g 14,hF.g 16]) TS hI λa w hF hI=>?_;refine a9 hF λa hF=>?_;refine Rn.plain rfl (Rn.cond false (hF.g 18) (Rn.plain rfl (Rn.region (L:=[0,1,2]) rfl ?_)));refine a9 hF λa hF=>?_;refine af hF (λo ho=>kY (n:=32) ho (hF.g 19) rfl o_) λa hF=>?_
  iterate 4 refine a9 hF λa hF=>?_
  refine Rn.plain rfl (Rn.plain rfl (ih (c+1) a w o_ o_ hI (hF.only ⟨rfl,rfl,?_,trivial⟩)));show some _=some _;rw[bZ,Int.natCast_ediv];rfl
end
theorem D7{Inv:Nat->World->Prop}{l:Nat}{r:Loop}{s:eD}{h bn:Nat}(hp:s.path.size=32*h)(hn:2^h<=n)(RV:n<2^(h+1))(hn3:n<9223372036854775808)
 (G:pc kX Goal (cf::cs) (λc=>#[.int .i64 (bZ n c),.string ((ju s.path c).extract 0 32)]) h l r Inv) {w:World} (hI:Inv 0 w) (hs:w.heap[bs]?=some (.cells s.cells 119)) (hl:w.heap[bn]?=some (.cells #[.int .i64 n] 3))
 (Rw:∀w,Inv h w->Rn kX Goal (cf.finish (.tuple #[])) cs w):
 Rn kX Goal (Frame.enter prog 122 #[.func (.yield l) #[] #[],.pk bs 0,.pk bn 0] .normal) (cf::cs) w:=by
 refine bm (N:=21) func122 N2 λa hF=>?_;refine af hF (λo ho=>D_ ho (hF.g 1)) λa hF=>?_
 iterate 4 refine a9 hF λa hF=>?_
 refine Rn.plain rfl (Rn.plain rfl (Rn.plain rfl ?_));refine BX hp hn RV hn3 G (λa w hI hd=>?_) h 0 a w rfl (Nat.zero_le _) hI (hF.only ⟨rfl,rfl,rfl,trivial⟩);exact Rn.ends rfl (.inl rfl) (g_ rfl hd func122 (Rw w hI))

def ob(n k:Nat):ByteArray:=⟨(bX n k).toArray⟩
theorem bR(n k:Nat):(ob n k).size=k:=jz n k
def Bs(n:Nat)(cells:Array Value)(ty:TypeId)(v:Value)(w:World):Prop:=∃p,v=.sk p n n/\w.heap[p]?=some (.cells cells ty)
theorem Bs.mono{cells:Array Value}(h:Bs n cells ty v w)(hb:Bw w w'):Bs n cells ty v w':=by
 obtain⟨p,h1,h2⟩:=h;exact⟨p,h1,(hb.block p (Array.getElem?_eq_some_iff.1 h2).1).trans h2⟩
section
variable{o:Oper}{y z u v:Operand}
theorem i1(j k:Nat)(hj:(j=0/\k=0)\/(j=1/\k=8)\/(j=2/\k=9))(QH:o.op=.fieldAddr 119 x j)(hx:ev x=.pk b 0):(execOp ev o).run prog w=.ok (.value (.pk b k)) w:=by
 have e:execOp ev o=(do pure (.value (←Instr.fieldAt 119 (.pk b 0) j))):=by simp only[execOp,QH,hx]
 have h2:(do pure (.value (←Instr.fieldAt 119 (.pk b 0) j)):Sem Next).run prog w=.ok (.value (.pk b k)) w:=by
  rcases hj with⟨rfl,rfl⟩|⟨rfl,rfl⟩|⟨rfl,rfl⟩<;>kernel_rfl
 rw[e,h2]
theorem zT{a1 a2 a3 a4:ByteArray}(QH:o.op=.buildSlice 43 4 #[(0,x),(1,y),(2,z),(3,u)])(h1:ev x=.string a1)(h2:ev y=.string a2)(h3:ev z=.string a3)(h4:ev u=.string a4):
 (execOp ev o).run prog w=.ok (.value (.sk w.heap.size 4 4)) (w.alloc (.cells #[.string a1,.string a2,.string a3,.string a4] 9)):=by
 have e:execOp ev o=(do pure (.value (←Instr.buildSlice 43 4 #[(0,.string a1),(1,.string a2),(2,.string a3),(3,.string a4)]))):=by simp[execOp,QH,h1,h2,h3,h4]
 have h2:(do pure (.value (←Instr.buildSlice 43 4 #[(0,.string a1),(1,.string a2),(2,.string a3),(3,.string a4)])):Sem Next).run prog w=.ok (.value (.sk w.heap.size 4 4)) (w.alloc (.cells #[.string a1,.string a2,.string a3,.string a4] 9)):=by kernel_rfl
 rw[e,h2]
theorem zU{a1 a2 a3 a4 a5:ByteArray}(QH:o.op=.buildSlice 43 5 #[(0,x),(1,y),(2,z),(3,u),(4,v)])(h1:ev x=.string a1)(h2:ev y=.string a2)(h3:ev z=.string a3)(h4:ev u=.string a4)(h5:ev v=.string a5):
 (execOp ev o).run prog w=.ok (.value (.sk w.heap.size 5 5)) (w.alloc (.cells #[.string a1,.string a2,.string a3,.string a4,.string a5] 9)):=by
 have e:execOp ev o=(do pure (.value (←Instr.buildSlice 43 5 #[(0,.string a1),(1,.string a2),(2,.string a3),(3,.string a4),(4,.string a5)]))):=by simp[execOp,QH,h1,h2,h3,h4,h5]
 have h2:(do pure (.value (←Instr.buildSlice 43 5 #[(0,.string a1),(1,.string a2),(2,.string a3),(3,.string a4),(4,.string a5)])):Sem Next).run prog w=.ok (.value (.sk w.heap.size 5 5)) (w.alloc (.cells #[.string a1,.string a2,.string a3,.string a4,.string a5] 9)):=by kernel_rfl
 rw[e,h2]
theorem mP(KS:List Int)(ps:List ByteArray)(ws:Array Value)(w:World)(p n:Nat)(V2:ws=(ps.map Value.string).toArray)(hn:n=ps.length)(hp:w.heap[p]?=some (.cells ws 9))(hK:w.rangeAt 0 0 (aC KS))(QL:KS.length=64)(hlen:(ps.flatMap λp=>p.data.toList).length<=576460752303423488)(hsmall:ps.length<=10)(h0:0<ps.length:=by simp):
 Cl kX 91 #[.sk p n n] w λe w'=>e=.returned (.string ⟨(de KS (ps.flatMap λp=>p.data.toList)).toArray⟩)/\Bw w w':=by
 subst hn;subst V2;have UR:cD ps ps.length=ps.flatMap λp=>p.data.toList:=by simp[cD]
 have:=of_any KS ps ps.length w p (Array.getElem?_eq_some_iff.1 hp).1 (λk hk=>by rw[ak hp];simp[hk]) hK QL (by rw[UR];exact hlen) o_ h0
 rwa [UR]at this
end
theorem Cx(s:eD):∀i,i<8->s.cells[i]?=s.key[i]?:=by
 intro i hi;rcases(by omega:i=0\/i=1\/i=2\/i=3\/i=4\/i=5\/i=6\/i=7)with rfl|rfl|rfl|rfl|rfl|rfl|rfl|rfl<;>rfl
theorem cU(KS:List Int)(L:List UInt8):(⟨(de KS L).toArray⟩:ByteArray).size=32:=by show(de KS L).toArray.size=32;simp[de]
theorem IQ{s:eD}{q:Nat}{Qb:ByteArray}(Xr:Qb=⟨(de KS ([s.id,ob q 4,ob 33153 2,s.salt,msg].flatMap λp=>p.data.toList)).toArray⟩)(QL:KS.length=64)(hw:nz wd)(Sv:s.width=wd)(hsh:s.shift=sh)(XN:sh<=8)(hn:s.count=n)(SA:1<=n)(RV:n<=34*(8/wd))(hlen:([s.id,ob q 4,ob 33153 2,s.salt,msg].flatMap λp=>p.data.toList).length<=576460752303423488)(hK:w.rangeAt 0 0 (aC KS))(h0:0<w.heap.size)(Ro:w.heap[N]?=some (.cells s.cells 119))
 (hF:ay [(1,.string (msg)),(2,.pk N 0),(5,.string (ob q 4))] 81 ds a)
 (next:∀a w',(Bw w w'/\∃v,im n (λc=>cy (ik Qb.data.toList wd sh) wd c) v w'/\ay [(6,v),(1,.string msg),(2,.pk N 0),(5,.string (ob q 4))] 81 ds a)->Rn kX Goal (fr.atR a K) cs w'):
 Rn kX Goal (fr.atR a (.code (rD f71 2)::K)) cs w:=by
 refine bY hF ?_;refine Gx.q ?_ (y:=λo a w ho z=>i1 0 0 d_ ho gx);refine Gx.q ?_ (y:=λo a w ho z=>fQ (s:=s) ho gx (bk z.b Ro) (Cx s));refine Gx.q ?_ (y:=λo a w ho z=>i1 0 0 d_ ho gx)
 iterate 3 refine Gx.q ?_
 refine Gx.k func92 (λw _ _=>u16_any 33153 d_ w) ?_;refine Gx.q ?_ (y:=λo a w ho z=>i1 2 9 d_ ho gx)
 iterate 2 refine Gx.q ?_
 refine nF [.inl (.string Qb),.inr (im n λc=>cy (ik Qb.data.toList wd sh) wd c),.inr (im n λc=>cy (ik Qb.data.toList wd sh) wd c)] (V:=λb=>.sk b 5 5) (λu=>?_) (y:=λo a w ho z=>zU ho gx gx gx gx gx);refine Gw.k func91 (λw hb hM=>?_) ?_
 .obtain⟨p,rfl,_,hp⟩:=hM.1 k_;rw[Xr];exact mP KS [s.id,ob q 4,ob 33153 2,s.salt,msg] _ w p 5 rfl rfl hp (bv h0 hb hK) QL hlen s_
 refine CW (λ_ _ _=>im.mono) func90 (λw _ _=>uB s wd sh n Qb w hw Sv hsh XN hn SA RV (by rw[Xr];exact cU KS _)) λv=>?_;exact uP (λ_ _ _=>im.mono) (λv2=>Gw.e λa w' hF hb hM=>next a w' ⟨hb,v2,hM.1 rfl,hF.only ⟨rfl,rfl,rfl,rfl,trivial⟩⟩) (y:=λo a w ho z=>⟨v,w,tZ ho gx,(z.m _ (Below.refl _ _)).1 k_,Below.refl _ _⟩)

theorem Ck(KS:List Int)(s:eD)(dg:Nat->Int)(n:Nat):cD ((List.range n).map λc=>pp KS s c (dg c) (s.links.extract (c*32) ((c+1)*32))) n=jE KS s dg n:=by
 simp[cD,jE,List.take_of_length_le,List.flatMap_map]
theorem te(KS:List Int)(pre:List UInt8):∀(n j:Nat) (x:List UInt8),x.length=32->(jX KS pre n j x).length=32
 |0,_,_,h=>h
 |n+1,j,_,_=>te KS pre n (j+1) _ (jI _ _ _ _)
theorem IJ(KS:List Int)(s:eD)(c:Nat)(d:Int)(link:ByteArray)(h:link.size=32):(pp KS s c d link).data.toList.length=32:=by
 have hl:link.data.toList.length=32:=by simpa using h
 simpa[pp]using te KS (mI s c) (cj s.width.toNat- d.toNat) d.toNat link.data.toList hl
theorem rF(KS:List Int)(s:eD)(dg:Nat->Int):∀n,n*32<=s.links.size->(jE KS s dg n).length=32*n
 |0,_=>by simp[jE]
 |n+1,h=>by
  have ih:=rF KS s dg n o_;have he:=IJ KS s n (dg n) (s.links.extract (n*32) ((n+1)*32)) (by rw[ByteArray.size_extract];omega);unfold jE at ih⊢;rw[List.range_succ,List.flatMap_append,List.length_append,ih,List.flatMap_singleton,he];omega
theorem IP{s:eD}{q:Nat}{dg:Nat->Nat}{vg:Value}{En:ByteArray}(hEn:En=⟨(jE KS s (λc=>(dg c:Nat)) n).toArray⟩)(hX:Xn=⟨(de KS ([s.id,ob q 4,ob 32896 2,En].flatMap λp=>p.data.toList)).toArray⟩)(QL:KS.length=64)(Sv:0<=s.width/\s.width<9)(hqq:0<=s.q/\s.q<4294967296)(RR:s.id.size<65536)(hn:s.count=n)(SA:1<=n)(hnb:n<65537)(hlk:n*32<=s.links.size)(C5:∀c,dg c<256)(hlen:([s.id,ob q 4,ob 32896 2,En].flatMap λp=>p.data.toList).length<=576460752303423488)(hK:w.rangeAt 0 0 (aC KS))(h0:0<w.heap.size)(Si:im n dg vg w)(Ro:w.heap[N]?=some (.cells s.cells 119))
 (hF:ay [(2,.pk N 0),(5,.string (ob q 4)),(6,vg)] 81 ds a)
 (next:∀a w',(Bw w w'/\ay [(7,.string Xn),(2,.pk N 0),(5,.string (ob q 4)),(6,vg)] 81 ds a)->Rn kX Goal (fr.atR a K) cs w'):
 Rn kX Goal (fr.atR a (.code (rD f71 3)::K)) cs w:=by
 subst hX;refine bY hF ?_;refine Gx.q ?_ (y:=λo a w ho z=>i1 0 0 d_ ho gx)
 iterate 3 refine Gx.q ?_
 refine Gx.k func92 (λw _ _=>u16_any 32896 d_ w) ?_;refine Gx.q ?_ (y:=λo a w ho z=>(kn (ex:=#[]) ho gx (by rw[Array.append_empty];exact bk z.b Ro)).1);refine Gx.q ?_;refine Gx.t [.inr (Bs n (Array.ofFn λc:Fin n=>Gr KS s (λc=>(dg c:Nat)) c.val) 9),.inl (.string En),.inr (Ms w (λb=>.sk b 4 4) (.cells #[.string s.id,.string (ob q 4),.string (ob 32896 2),.string En] 9)),.inl (.string ⟨(de KS ([s.id,ob q 4,ob 32896 2,En].flatMap λp=>p.data.toList)).toArray⟩),.inl (.string ⟨(de KS ([s.id,ob q 4,ob 32896 2,En].flatMap λp=>p.data.toList)).toArray⟩)] ?_;refine CW (λ_ _ _=>Bs.mono) func94 (λw hb _=>?_) λu=>?_
 .obtain⟨gb,gcap,rfl,SL,Vb⟩:=Si.mono hb;exact(Fp KS QL s n gb n gcap (λc=>(dg c:Nat)) w (bv h0 hb hK) (Nat.lt_of_lt_of_le h0 hb.size) hn SA hnb Sv hqq RR hlk SL (Nat.le_refl _) (λc hc=>⟨⟨by omega,by have:=C5 c;omega⟩,Vb c hc⟩)).mono λe Rb ⟨bL,h1,h2,h3⟩=>⟨_,h1,⟨bL,rfl,h2⟩,h3⟩
 refine Gw.k func93 (λw hb hM=>?_) ?_
 .obtain⟨p,rfl,hp⟩:=hM.1 k_;have hj:=Ck KS s (λc=>(dg c:Nat)) n;have hjl:=rF KS s (λc=>(dg c:Nat)) n hlk;have XH:((List.range n).map λc=>pp KS s c ((dg c:Nat):Int) (s.links.extract (c*32) ((c+1)*32))).length=n:=by simp
  have hJ:=EP (p:=false) (A:=Pf) p 0 n ((List.range n).map λc=>pp KS s c ((dg c:Nat):Int) (s.links.extract (c*32) ((c+1)*32))) w (λj y hx=>by
   have hj:j<n:=(by have:=(List.getElem?_eq_some_iff.1 hx).1;rw[XH]at this;exact this);rw[Nat.zero_add,ak hp];simp[hj]at hx⊢;rw[←hx];rfl) (by rw[XH];exact SA) (by rw[XH];omega) (by rw[XH];exact Nat.le_refl _) (by rw[XH,hj];omega) (by rw[XH,hj];omega)
  rw[XH,hj]at hJ;exact hJ.mono λe Rb h=>⟨by rw[hEn];exact h.1,h.2⟩
 refine xa (λu=>?_) (y:=λo a w ho z=>zT ho gx gx gx gx);refine Gw.k func91 (λw hb hM=>?_) ?_
 .obtain⟨p,rfl,_,hp⟩:=hM.1 k_;exact mP KS [s.id,ob q 4,ob 32896 2,En] _ w p 4 rfl rfl hp (bv h0 hb hK) QL hlen s_
 exact Gw.q (Gw.e λa w' hF hb _=>next a w' ⟨hb,hF.only ⟨rfl,rfl,rfl,rfl,trivial⟩⟩)

theorem IN{s:eD}{h q:Nat}{v7:Value}(U9:H2=2^h)(hh:s.height=h)(hh8:h<=8)(Wt:H2<=256)(hq:s.q=q)(VJ:q<4294967296)(Ro:w.heap[N]?=some (.cells s.cells 119))
 (hF:ay [(2,.pk N 0),(7,v7)] 81 ds a)
 (next:∀a w',(Bw w w'/\ay [(8,.int .i64 ((H2+q:Nat):Int)),(2,.pk N 0),(7,v7)] 81 ds a)->Rn kX Goal (fr.atR a K) cs w'):
 Rn kX Goal (fr.atR a (.code (rD f71 4)::K)) cs w:=by
 have hp:(1:Int)*2^h=(H2:Int):=by rw[Int.one_mul,U9,Int.natCast_pow];rfl
 refine bY hF ?_;refine Gx.q ?_ (y:=λo a w ho z=>i1 0 0 d_ ho gx);refine Gx.q ?_;refine Gx.q ?_ (v:=.int .i64 h) (y:=λo a w ho z=>(an az ho gx ((ak (bk z.b Ro) 4).trans (by rw[←hh];rfl))).1);refine Gx.q ?_ (y:=λo a w ho z=>(gk (m:=1) (k:=h) ho rfl gx o_ (by rw[hp];omega)).trans (by rw[hp]));refine Gx.q ?_ (y:=λo a w ho z=>i1 1 8 d_ ho gx);refine Gx.q ?_ (v:=.int .i64 q) (y:=λo a w ho z=>(an az ho gx ((ak (bk z.b Ro) 8).trans (by rw[←hq];rfl))).1);refine Gx.q ?_ (y:=λo a w ho z=>aI ho gx gx o_);refine Gx.q ?_;exact Gx.e λa w' hF hb _=>next a w' ⟨hb,(hF.only ⟨rfl,rfl,rfl,trivial⟩)⟩

theorem IM{s:eD}{lf M:Nat}{en:ByteArray}(hX:Xn=⟨(de KS ([s.id,ob lf 4,ob 33410 2,en].flatMap λp=>p.data.toList)).toArray⟩)(QL:KS.length=64)(hlf:lf<9223372036854775808)(hlen:([s.id,ob lf 4,ob 33410 2,en].flatMap λp=>p.data.toList).length<=576460752303423488)(hK:w.rangeAt 0 0 (aC KS))(h0:0<w.heap.size)(Ro:w.heap[N]?=some (.cells s.cells 119))
 (hM:M=w.heap.size)
 (hF:ay [(2,.pk N 0),(7,.string (en)),(8,.int .i64 (lf:Int))] 81 ds a)
 (next:∀a w',(∃b9 w1,M<=b9/\Bw w w1/\w1.heap[b9]?=some (.cells #[.string ⟨#[]⟩] 9)/\w'=w1.setCell ⟨b9,0,none⟩ (.string Xn)/\ay [(9,.pk b9 0),(56,.string Xn),(2,.pk N 0),(7,.string en),(8,.int .i64 (lf:Int))] 81 ds a)->Rn kX Goal (fr.atR a K) cs w'):
 Rn kX Goal (fr.atR a (.code (rD f71 5)::K)) cs w:=by
 subst hX hM;refine gI 10 hF ?_;refine Gx.q ?_ (y:=λo a w ho z=>i1 0 0 d_ ho gx)
 iterate 3 refine Gx.q ?_
 refine Gx.k func89 (λw _ _=>u32_any lf o_ w) ?_;refine Gx.k func92 (λw _ _=>u16_any 33410 d_ w) ?_;refine Gx.q ?_;refine nF [.inl (.string ⟨(de KS ([s.id,ob lf 4,ob 33410 2,en].flatMap λp=>p.data.toList)).toArray⟩),.inr (Ms w (λb=>.pk b 0) (.cells #[.string ⟨#[]⟩] 9))] (V:=λb=>.sk b 4 4) (λu=>?_) (y:=λo a w ho z=>zT ho gx gx gx gx);refine Gw.k func91 (λw hb hM=>?_) ?_
 .obtain⟨p,rfl,_,hp⟩:=hM.1 k_;exact mP KS [s.id,ob lf 4,ob 33410 2,en] _ w p 4 rfl rfl hp (bv h0 hb hK) QL hlen s_
 refine xa (λu=>Gw.e λa w' hF hb hM rest hgo=>?_) (y:=λo a w ho _=>(lz ho).1);obtain⟨b9,rfl,h1,h3⟩:=hM.1 rfl;exact aM hF (λo ho=>(dr (w:=w') (b:=b9) (k:=0) (v:=.string _) (v0:=.string ⟨#[]⟩) rfl rfl k_ ho (hF.g 9) (hF.g 56) ((ak h3 0).trans rfl) (by simp[World.frozen?,h3])).1) λa hF=>hgo _ _ (next a _ ⟨b9,w',h1,hb,h3,rfl,hF.only ⟨rfl,rfl,rfl,rfl,rfl,trivial⟩⟩)

theorem IL{vn vb:Value}{x:ByteArray}(Xa:w.heap[b9]?=some (.cells #[.string x] 9))
 (hF:ay [(2,.pk N 0),(9,.pk b9 0),(10,vn),(11,vb)] 81 ds a)
 (next:∀a w',(Bw w w'/\ay [(12,vb),(13,.string x),(2,.pk N 0),(9,.pk b9 0),(10,vn),(11,vb)] 81 ds a)->Rn kX Goal (fr.atR a K) cs w'):
 Rn kX Goal (fr.atR a (.code (rD f71 11)::K)) cs w:=by
 refine bY hF ?_
 iterate 4 refine Gx.q ?_
 exact Gx.e λa w' hF hb _=>next a w' ⟨hb,(hF.only ⟨rfl,rfl,rfl,rfl,rfl,rfl,trivial⟩)⟩
theorem IK{s:eD}{nn:Nat}{x lt rt:ByteArray}(hX:Xn=⟨(de KS ([s.id,ob (nn/2) 4,ob 33667 2,lt,rt].flatMap λp=>p.data.toList)).toArray⟩)(QL:KS.length=64)(hnn:nn<9223372036854775808)(hlen:([s.id,ob (nn/2) 4,ob 33667 2,lt,rt].flatMap λp=>p.data.toList).length<=576460752303423488)(hK:w.rangeAt 0 0 (aC KS))(h0:0<w.heap.size)(Ro:w.heap[N]?=some (.cells s.cells 119))
 (Xa:w.heap[b9]?=some (.cells #[.string x] 9))
 (hF:ay [(2,.pk N 0),(9,.pk b9 0),(10,.int .i64 (nn:Int)),(12,.string (lt)),(13,.string (rt))] 81 ds a)
 (next:∀a w',(∃w1,Bw w w1/\w'=w1.setCell ⟨b9,0,none⟩ (.string Xn))->Rn kX Goal (fr.atR a K) cs w'):
 Rn kX Goal (fr.atR a (.code (rD f71 12)::K)) cs w:=by
 subst hX;refine gI 11 hF ?_;refine Gx.q ?_ (y:=λo a w ho z=>i1 0 0 d_ ho gx)
 iterate 3 refine Gx.q ?_
 refine Gx.q ?_ (v:=.int .i64 ((nn/2:Nat):Int)) (y:=λo a w ho z=>by rw[Int.natCast_ediv];exact qN ho gx gx o_ o_);refine Gx.k func89 (λw _ _=>u32_any (nn/2) o_ w) ?_;refine Gx.k func92 (λw _ _=>u16_any 33667 d_ w) ?_
 iterate 2 refine Gx.q ?_
 refine nF [.inl (.string ⟨(de KS ([s.id,ob (nn/2) 4,ob 33667 2,lt,rt].flatMap λp=>p.data.toList)).toArray⟩)] (V:=λb=>.sk b 5 5) (λu=>?_) (y:=λo a w ho z=>zU ho gx gx gx gx gx);refine Gw.k func91 (λw hb hM=>?_) (Gw.e λa w' hF h2 _ rest hgo=>?_)
 .obtain⟨p,rfl,_,hp⟩:=hM.1 k_;exact mP KS [s.id,ob (nn/2) 4,ob 33667 2,lt,rt] _ w p 5 rfl rfl hp (bv h0 hb hK) QL hlen s_
 have h3:=bk h2 Xa;exact aM hF (λo ho=>(dr (w:=w') (b:=b9) (k:=0) (v:=.string _) (v0:=.string x) rfl rfl k_ ho (hF.g 9) (hF.g 79) ((ak h3 0).trans rfl) (by simp[World.frozen?,h3])).1) λa hF=>hgo _ _ (next a _ ⟨w',h2,rfl⟩)

def iD(KS:List Int)(ps:List ByteArray):ByteArray:=⟨(de KS (ps.flatMap λp=>p.data.toList)).toArray⟩
def qB(KS:List Int)(s:eD)(q:Nat)(msg:ByteArray):ByteArray:=iD KS [s.id,ob q 4,ob 33153 2,s.salt,msg]
def NS(KS:List Int)(s:eD)(wd sh q:Nat)(msg:ByteArray)(c:Nat):Nat:=cy (ik (qB KS s q msg).data.toList wd sh) wd c
def PK(KS:List Int)(s:eD)(wd sh n q:Nat)(msg:ByteArray):ByteArray:=⟨(jE KS s (λc=>(NS KS s wd sh q msg c:Nat)) n).toArray⟩
def PD(KS:List Int)(s:eD)(wd sh n q:Nat)(msg:ByteArray):ByteArray:=iD KS [s.id,ob q 4,ob 32896 2,PK KS s wd sh n q msg]
def NY(KS:List Int)(s:eD)(wd sh n q lf:Nat)(msg:ByteArray):ByteArray:=iD KS [s.id,ob lf 4,ob 33410 2,PD KS s wd sh n q msg]
def AZ(KS:List Int)(id:ByteArray)(nn:Nat)(p x:ByteArray):ByteArray:=iD KS [id,ob (nn/2) 4,ob 33667 2,if nn%2=1 then p else x,if nn%2=1 then x else p]
theorem eH(KS:List Int)(ps:List ByteArray):(iD KS ps).size=32:=by show(de KS _).toArray.size=32;simp[de]
theorem OQ(a b c d e:ByteArray):([a,b,c,d,e].flatMap λp=>p.data.toList).length=a.size+b.size+c.size+d.size+e.size:=by
 simp[List.flatMap_cons];omega
theorem OR(a b c d:ByteArray):([a,b,c,d].flatMap λp=>p.data.toList).length=a.size+b.size+c.size+d.size:=by
 simp[List.flatMap_cons];omega
structure Cm (ts tg:TypeId) (s:eD) (N b9 l ld:Nat) (r:Loop) (w0:World) (x:ByteArray) (w:World):Prop where
 old:Bw w0 w
 sig:w.heap[N]?=some (.cells s.cells tg)
 nine:w.heap[b9]?=some (.cells #[.string x] ts)
 list:w.heap[ld]?=some (.deferred (some []))
 loop:w.heap[l]?=some (.loop r)
section
variable{ts tg:TypeId}{s:eD}{l ld:Nat}{r:Loop}{x:ByteArray}
theorem Cm.below(h:Cm ts tg s N b9 l ld r w0 x w)(hb:Bw w w'):Cm ts tg s N b9 l ld r w0 x w':=by
 have g:∀{b:Nat} {o:Obj},w.heap[b]?=some o->w'.heap[b]?=some o:=λ{b o} ho=>(hb.block b (Array.getElem?_eq_some_iff.1 ho).1).trans ho;exact⟨ab h.old h.old.size hb,g h.sig,g h.nine,g h.list,g h.loop⟩
theorem Cm.turn(h:Cm ts tg s N b9 l ld r w0 x w)(hl:w0.heap.size<=l)(r':Loop):Cm ts tg s N b9 l ld r' w0 x (aO w l r'):=by
 have n1:N≠l:=λe=>by have:=h.sig;rw[e,h.loop]at this;cases this
 have n2:b9≠l:=λe=>by have:=h.nine;rw[e,h.loop]at this;cases this
 have n3:ld≠l:=λe=>by have:=h.list;rw[e,h.loop]at this;cases this
 exact⟨h.old.trans (dk w _ _ hl),(aF w _ n1).trans h.sig,(aF w _ n2).trans h.nine,(aF w _ n3).trans h.list,fP h.loop⟩
theorem Cm.put(h:Cm ts tg s N b9 l ld r w0 x w)(ht:ts≠tg)(hb:w0.heap.size<=b9)(y:ByteArray):Cm ts tg s N b9 l ld r w0 y (w.setCell ⟨b9,0,none⟩ (.string y)):=by
 have n1:N≠b9:=λe=>by have:=h.sig;rw[e,h.nine]at this;injection this with this;injection this with _ this;exact ht this
 have n2:l≠b9:=λe=>by have:=h.nine;rw[←e,h.loop]at this;cases this
 have n3:ld≠b9:=λe=>by have:=h.nine;rw[←e,h.list]at this;cases this
 exact⟨h.old.trans (cN w _ _ hb),(br w _ n1).trans h.sig,jb h.nine,(br w _ n3).trans h.list,(br w _ n2).trans h.loop⟩
end
def q_(KS:List Int)(id path:ByteArray)(lf:Nat)(x:ByteArray):Nat->ByteArray
 |0=>x
 |c+1=>AZ KS id (bZ lf c) ((ju path c).extract 0 32) (q_ KS id path lf x c)
theorem yb(KS:List Int)(id path:ByteArray)(lf:Nat)(x:ByteArray)(hx:x.size=32):∀c,(q_ KS id path lf x c).size=32
 |0=>hx
 |_+1=>eH _ _
def uG(f:Func):Code:=.block 1 (.seq (rG f 9) (.seq (.seq (rG f 10) (.cond (.tmp 66) (rD f 11) .skip)) (rD f 12)))
def yY(f:Func)(T:Array Value)(ld:Nat)(st:LoopState):Loop:={state:=st,pending:=none,fn:=71,tmps:=T,params:=#[60,61],assign:=.seq (rG f 7) (rG f 8),body:=uG f,defers:=ld}
section
variable{o:Oper}{y:Operand}{u:TypeId}{m n:Int}
theorem KM(QH:o.op=.binOp .rem 3 x y u)(hx:ev x=.int .i64 m)(hy:ev y=.int .i64 2)(h0:0<=m):(execOp ev o).run prog w=.ok (.value (.int .i64 (m%2))) w:=by
 have e2:m.tmod 2=m%2:=Int.tmod_eq_emod_of_nonneg h0;simp[execOp,QH,hx,hy,go_sem,e2]
theorem iP(QH:o.op=.binOp .eql 3 x y u)(hx:ev x=.int .i64 m)(hy:ev y=.int .i64 n):(execOp ev o).run prog w=.ok (.value (.bool (m==n))) w:=by
 simp[execOp,QH,hx,hy,go_sem]
end
section
variable{T:Array Value}{s:eD}{l ld nn:Nat}{p x:ByteArray}
theorem H1(QL:KS.length=64)(hK:w0.rangeAt 0 0 (aC KS))(h0:0<w0.heap.size)(RR:s.id.size<65536)(hnn:nn<9223372036854775808)(hp:p.size<=32)(hx:x.size=32)(Xp:w0.heap.size<=b9)(hl:w0.heap.size<=l)
 (hT:ay [(2,.pk N 0),(9,.pk b9 0)] 81 [] ⟨T,[]⟩) {cf:Frame} {w:World}
 (hI:Cm 9 119 s N b9 l ld (yY f71 T ld .ready) w0 x w)
 (next:∀w',Cm 9 119 s N b9 l ld (yY f71 T ld .ready) w0 (AZ KS s.id nn p x) w'->Rn kX Goal (cf.finish (.bool true)) cs w'):
 Rn kX Goal (Frame.round l 71 (((#[60,61]:Array Tmp).zip #[.int .i64 nn,.string p]).foldl (λtmps (t,a)=>tmps.setIfInBounds t a) T) (.seq (rG f71 7) (rG f71 8)) (uG f71) .normal) (cf::cs) w:=by
 have hF:=(hT.put (d:=60) d_ (.int .i64 nn)).put (d:=61) d_ (.string p);have ez:((#[60,61]:Array Tmp).zip #[.int .i64 nn,.string p]).foldl (λ(tmps:Array Value) (x:Tmp×Value)=>match x with|(t,a)=>tmps.setIfInBounds t a) T=(T.setIfInBounds 60 (.int .i64 nn)).setIfInBounds 61 (.string p):=by simp
 rw[ez];show Rn _ Goal ((rb 71 l).atR (Act.put (Act.put ⟨T,[]⟩ (some 60) (.int .i64 nn)) (some 61) (.string p)) [.code (.seq (rG f71 7) (rG f71 8)),.beginRound,.code (uG f71)]) (cf::cs) w;revert hF;generalize Act.put (Act.put ⟨T,[]⟩ (some 60) (.int .i64 nn)) (some 61) (.string p)=a;intro hF;refine Rn.plain rfl (Rn.region (L:=[0]) rfl (rT hF 10 60 d_ rfl k_ λa hF=>?_));refine Rn.plain rfl (Rn.region (L:=[0]) rfl (rT hF 11 61 d_ rfl k_ λa hF=>?_));refine Rn.plain rfl (iI (r:=yY f71 T ld .ready) rfl hI.loop rfl ?_);have Ve:=hI.turn hl (yY f71 T ld .busy);show Rn _ Goal _ _ (aO w l (yY f71 T ld .busy));revert Ve;generalize aO w l (yY f71 T ld .busy)=w1;intro Ve;refine af hF (λo ho=>(an bN ho (hF.g 9) ((ak Ve.nine 0).trans rfl)).1) λa hF=>?_
 iterate 4 refine a9 hF λa hF=>?_
 refine a9 hF λa hF=>?_;refine a9 hF λa hF=>?_;have done:∀(lt rt:ByteArray) (a:Act) (w2:World),AZ KS s.id nn p x=iD KS [s.id,ob (nn/2) 4,ob 33667 2,lt,rt]->lt.size<=32->rt.size<=32->Cm 9 119 s N b9 l ld (yY f71 T ld .busy) w0 x w2->
  ay [(2,.pk N 0),(9,.pk b9 0),(10,.int .i64 (nn:Int)),(12,.string lt),(13,.string rt)] 81 [] a->
  Rn kX Goal ((rb 71 l).atR a [.code (rD f71 12),.inBlock 1]) (cf::cs) w2:=by
  intro lt rt a w2 hup QK hrt hI2 hF;refine IK (x:=x) (Xn:=AZ KS s.id nn p x) hup QL hnn (by rw[OQ,bR,bR];omega) (bv h0 hI2.old hK) (Nat.lt_of_lt_of_le h0 hI2.old.size) hI2.sig hI2.nine hF λa w3 hw3=>?_;obtain⟨w4,R0,rfl⟩:=hw3;have hI3:=(hI2.below R0).put d_ Xp (AZ KS s.id nn p x);exact Rn.plain rfl (gZ rfl rfl hI3.loop (next _ (hI3.turn hl _)))
 refine Rn.plain rfl (Rn.cond _ (hF.g 66) ?_);by_cases VO:nn%2=1
 .rw[show(((nn:Int)%2)==1)=true from by rw[beq_iff_eq];omega];refine IL (x:=x) (vb:=.string p) (vn:=.int .i64 nn) (N:=N) Ve.nine (hF.only ⟨rfl,rfl,rfl,rfl,trivial⟩) λa w2 ⟨QN,hF⟩=>?_;exact done p x a w2 (by simp[AZ,VO]) hp o_ (Ve.below QN) (hF.only ⟨rfl,rfl,rfl,rfl,rfl,trivial⟩)
 .rw[show(((nn:Int)%2)==1)=false from by rw[beq_eq_false_iff_ne];omega];refine Rn.plain rfl ?_;exact done x p a w1 (by simp[AZ,VO]) o_ hp Ve (hF.only ⟨rfl,rfl,rfl,rfl,rfl,trivial⟩)
end
theorem N8:f95.body=some (.seq (rG f95 0) (.seq (rG f95 1) .ret)):=by kernel_rfl
theorem Gp(s:eD)(lf:Nat)(w:World):
 Cl kX 95 #[.agg s.cells,.int .i64 lf] w λe w'=>e=.returned (.func (.func 122) #[] #[.pk w.heap.size 0,.pk (w.heap.size+1) 0])/\w'=(w.alloc (.cells s.cells 119)).alloc (.cells #[.int .i64 lf] 3):=by
 refine av (N:=6) func95 N8 λcs a hF=>?_;refine Rn.gr ?_;refine fG hF 2 0 119 d_ rfl k_ λa hF=>?_;show Rn _ _ _ _ (w.alloc (.cells s.cells 119));refine fG hF 3 1 3 d_ rfl k_ λa hF=>?_;rw[ao]at hF;show Rn _ _ _ _ ((w.alloc (.cells s.cells 119)).alloc (.cells #[.int .i64 lf] 3));refine a9 hF λa hF=>?_;refine Rn.gr ?_;refine Rn.op hF 5 (.makeFunc (.func 122) #[] #[.tmp 2,.tmp 3]) (v:=.func (.func 122) #[] #[.pk w.heap.size 0,.pk (w.heap.size+1) 0]) (w':=(w.alloc (.cells s.cells 119)).alloc (.cells #[.int .i64 lf] 3)) d_ k_ s_ (λo ho=>?_) λa hF=>?_
 .have h:=(dG prog (w:=(w.alloc (.cells s.cells 119)).alloc (.cells #[.int .i64 lf] 3)) (ev:=a.eval) ho).1;rw[h];simp[hF.g 2,hF.g 3]
 refine a9 hF λa hF=>?_;exact aL hF ⟨rfl,rfl⟩

theorem CF:f71.body=some (.seq (rG f71 0) (.seq (rG f71 1) (.seq (rD f71 2) (.seq (rD f71 3)
 (.seq (rD f71 4) (.seq (rD f71 5) (.seq (.seq (rG f71 6) (.block 0 (.rangeFunc (.tmp 59) #[60,61] (.seq (rG f71 7) (rG f71 8)) (uG f71))))
 (.seq (rG f71 13) .ret)))))))):=by kernel_rfl
structure Pt (s:eD) (h wd sh n q:Nat):Prop where
 wid:nz wd
 width:s.width=wd
 shift:s.shift=sh
 shift8:sh<=8
 count:s.count=n
 one:1<=n
 most:n<=34*(8/wd)
 height:s.height=h
 low:h<=5
 qq:s.q=q
 leaf:q<2^h
 id:s.id.size<=1000
 salt:s.salt.size<=1000
 links:n*32<=s.links.size
 path:s.path.size=32*h
def vt(KS:List Int)(s:eD)(h wd sh n q:Nat)(msg:ByteArray):ByteArray:=q_ KS s.id s.path (2^h+q) (NY KS s wd sh n q (2^h+q) msg) h
theorem wF(KS:List Int)(QL:KS.length=64)(s:eD)(h wd sh n q:Nat)(f:Pt s h wd sh n q)(msg:ByteArray)(hmsg:msg.size<=281474976706560)(w:World)(hK:w.rangeAt 0 0 (aC KS))(h0:0<w.heap.size):
 Cl kX 71 #[.agg s.cells,.string msg] w λe w'=>e=.returned (.string (vt KS s h wd sh n q msg))/\Bw w w':=by
 have hw8:wd<=8:=by rcases f.wid with h|h|h<;>omega
 have SJ:8/wd<=4:=by rcases f.wid with h|h|h<;>subst h<;>decide
 have Xb:n<=136:=Nat.le_trans f.most (Nat.le_trans (Nat.mul_le_mul_left 34 SJ) d_);have h32:2^h<=32:=Nat.le_trans (Nat.pow_le_pow_right d_ f.low) d_;have hq:=f.leaf;have RR:=f.id;have T_:=f.salt;have Vb:∀c,NS KS s wd sh q msg c<256:=λc=>by
  have:=kL (ik (qB KS s q msg).data.toList wd sh) wd c;have:=lR f.wid;unfold NS;omega
 have Xi:(PK KS s wd sh n q msg).size<=5000:=by
  have:=rF KS s (λc=>(NS KS s wd sh q msg c:Nat)) n f.links;show(jE KS s (λc=>(NS KS s wd sh q msg c:Nat)) n).toArray.size<=5000;simp only[List.size_toArray];omega
 refine av (N:=81) func71 CF λcs a hF=>?_;refine cW hF λw1 a QM SR _ hF=>?_;refine uN hF 4 (.string ⟨#[]⟩) d_ k_ λa hF=>?_;refine af hF (λo ho=>i1 1 8 d_ ho (hF.g 2)) λa hF=>?_;refine af hF (λo ho=>(an (v:=.int .i64 q) az ho (hF.g 14) ((ak SR 8).trans (by rw[←f.qq];rfl))).1) λa hF=>?_;refine bH hF func89 ((u32_any q o_ w1)) λw2 QN a hF=>?_;refine a9 hF λa hF=>?_;refine Rn.plain rfl (Rn.plain rfl ?_);have RD:Bw w w2:=ab QM QM.size QN;have TC:=bk QN SR;clear QM SR QN;have hF:ay [(1,.string msg),(2,.pk w.heap.size 0),(5,.string (ob q 4))] 81 [] a:=hF.only ⟨rfl,rfl,rfl,trivial⟩;refine IQ (Qb:=qB KS s q msg) (wd:=wd) (sh:=sh) (n:=n) rfl QL f.wid f.width f.shift f.shift8 f.count f.one f.most (by rw[OQ,bR,bR];omega) (bv h0 RD hK) (Nat.lt_of_lt_of_le h0 RD.size) TC hF λa w3 ⟨QW,vg,Si,hF⟩=>?_;have RF:Bw w w3:=ab RD RD.size QW;have Uw:=bk QW TC;clear QW TC;refine Rn.plain rfl ?_;refine IP (dg:=NS KS s wd sh q msg) (En:=PK KS s wd sh n q msg) (Xn:=PD KS s wd sh n q msg) rfl rfl QL ⟨by have:=f.width;omega,by have:=f.width;omega⟩ ⟨by have:=f.qq;omega,by have:=f.qq;omega⟩ o_ f.count f.one o_ f.links Vb (by rw[OR,bR,bR];omega) (bv h0 RF hK) (Nat.lt_of_lt_of_le h0 RF.size) Si Uw (hF.only ⟨rfl,rfl,rfl,trivial⟩) λa w4 ⟨R0,hF⟩=>?_;have Ry:Bw w w4:=ab RF RF.size R0;have Uk:=bk R0 Uw;clear R0 Uw Si;refine Rn.plain rfl ?_;refine IN (h:=h) (q:=q) (H2:=2^h) rfl f.height (by have:=f.low;omega) o_ f.qq o_ Uk (hF.only ⟨rfl,rfl,trivial⟩) λa w5 ⟨Rz,hF⟩=>?_;have UF:Bw w w5:=ab Ry Ry.size Rz;have We:=bk Rz Uk;clear Rz Uk;refine Rn.plain rfl ?_;refine IM (lf:=2^h+q) (en:=PD KS s wd sh n q msg) (Xn:=NY KS s wd sh n q (2^h+q) msg) (M:=w5.heap.size) rfl QL o_ (by rw[OR,bR,bR,PD,eH];omega) (bv h0 UF hK) (Nat.lt_of_lt_of_le h0 UF.size) We rfl (hF.only ⟨rfl,rfl,rfl,trivial⟩) λa w6 ⟨b9,w5',Xp,Rz,WL,WB,hF⟩=>?_;have hB5':Bw w w5':=ab UF UF.size Rz;have hsz5:=UF.size;have hlt5:=(Array.getElem?_eq_some_iff.1 We).1;have hs6:w6.heap[w.heap.size]?=some (.cells s.cells 119):=by
  rw[WB,br _ _ (by show _≠b9;omega)];exact(Rz.block _ hlt5).trans We
 have hn6:w6.heap[b9]?=some (.cells #[.string (NY KS s wd sh n q (2^h+q) msg)] 9):=by rw[WB];exact jb WL
 have SD:Bw w w6:=by rw[WB];exact hB5'.trans (cN _ _ _ (by show _<=b9;omega))
 clear WB Rz WL hB5' We;refine af hF (λo ho=>(kn (ex:=#[]) ho (hF.g 2) (by rw[Array.append_empty];exact hs6)).1) λa hF=>?_;refine a9 hF λa hF=>?_;refine bH hF func95 ((Gp s (2^h+q) w6)) λw7 WA a hF=>?_;have SP:Bw w6 w7:=by rw[WA];exact ab (aD w6 _) (by rw[ao];omega) (aD _ _)
 have k0:w7.heap[w6.heap.size]?=some (.cells s.cells 119):=by
  rw[WA];exact(bp _ _ (by rw[ao];omega)).trans (aK w6 _)
 have k1:w7.heap[w6.heap.size+1]?=some (.cells #[.int .i64 ((2^h+q:Nat):Int)] 3):=by
  rw[WA];have:=aK (w6.alloc (.cells s.cells 119)) (.cells #[.int .i64 ((2^h+q:Nat):Int)] 3);rw[ao]at this;exact this
 have hB7:Bw w w7:=ab SD SD.size SP;have hs7:=bk SP hs6;have hn7:=bk SP hn6;clear WA SP hs6 hn6;have VF:=hB7.size;have hk0lt:=(Array.getElem?_eq_some_iff.1 k0).1;have hk1lt:=(Array.getElem?_eq_some_iff.1 k1).1;have hslt:=(Array.getElem?_eq_some_iff.1 hs7).1;have hnlt:=(Array.getElem?_eq_some_iff.1 hn7).1;refine Rn.plain rfl (Rn.plain rfl ?_);refine iW (yY f71 a.tmps w7.heap.size .ready) (args:=#[.func (.yield (w7.heap.size+1)) #[] #[],.pk w6.heap.size 0,.pk (w6.heap.size+1) 0]) rfl rfl func122 k_ k_ (hF.g 59) s_ ?_;have hT:ay [(2,.pk w.heap.size 0),(9,.pk b9 0)] 81 [] ⟨a.tmps,[]⟩:=⟨rfl,hF.size,(hF.only (G:=[(2,.pk w.heap.size 0),(9,.pk b9 0)]) ⟨rfl,rfl,trivial⟩).slot⟩;have hI0:Cm 9 119 s w.heap.size b9 (w7.heap.size+1) w7.heap.size (yY f71 a.tmps w7.heap.size .ready) w (q_ KS s.id s.path (2^h+q) (NY KS s wd sh n q (2^h+q) msg) 0) (bU w7 (yY f71 a.tmps w7.heap.size .ready)):=
  ⟨ab hB7 VF (fh w7 _),(aX w7 _ hslt).trans hs7,(aX w7 _ hnlt).trans hn7,dK w7 _,dJ w7 _⟩
 have G:∀Goal,pc kX Goal (((base 71).atR ⟨a.tmps,{target:=.collected w7.heap.size,args:=#[]}::a.defers⟩ (.inRangeFunc (w7.heap.size+1)::[.inBlock 0,.code (.seq (rG f71 13) .ret)]))::cs) (λc=>#[.int .i64 (bZ (2^h+q) c),.string ((ju s.path c).extract 0 32)]) h (w7.heap.size+1) (yY f71 a.tmps w7.heap.size .ready)
  (λc=>Cm 9 119 s w.heap.size b9 (w7.heap.size+1) w7.heap.size (yY f71 a.tmps w7.heap.size .ready) w (q_ KS s.id s.path (2^h+q) (NY KS s wd sh n q (2^h+q) msg) c)):=
  λGoal=>
  {below:=λc w w' h hb=>h.below hb
   loop:=λc w h=>h.loop
   size:=λc=>rfl
   round:=λc w' cf hc hI next=>H1 QL hK h0 o_ (by have:=mR (2^h+q) c;omega) (by rw[ByteArray.size_extract];omega) (yb _ _ _ _ _ (eH _ _) c) o_ o_ hT hI next}
 refine D7 (s:=s) f.path o_ (by rw[Nat.pow_succ];omega) o_ (G _) hI0 ((aX w7 _ hk0lt).trans k0) ((aX w7 _ hk1lt).trans k1) λw8 hI=>?_;show Rn _ _ ((base 71).atR ⟨a.tmps,{target:=.collected w7.heap.size,args:=#[]}::a.defers⟩ (.endRangeFunc (w7.heap.size+1)::_)) cs w8;refine fm hI.loop rfl rfl ?_;have hI9:=hI.turn o_ (yY f71 a.tmps w7.heap.size .exhausted);show Rn _ _ _ _ (aO w8 (w7.heap.size+1) (yY f71 a.tmps w7.heap.size .exhausted));have hG:ay [(9,.pk b9 0)] 81 [{target:=.collected w7.heap.size,args:=#[]}] ⟨a.tmps,{target:=.collected w7.heap.size,args:=#[]}::a.defers⟩:=⟨by rw[hF.defers],hF.size,(hF.only (G:=[(9,.pk b9 0)]) ⟨rfl,trivial⟩).slot⟩;revert hG hI9;generalize aO w8 (w7.heap.size+1) (yY f71 a.tmps w7.heap.size .exhausted)=w9;generalize (Act.mk a.tmps ({target:=.collected w7.heap.size,args:=#[]}::a.defers))=a2;intro hI9 hG;refine Rn.gr ?_;refine Rn.op hG 80 (.load 9 (.tmp 9)) d_ k_ s_ (λo ho=>(an bN ho (hG.g 9) ((ak hI9.nine 0).trans rfl)).1) λa3 hG=>?_;refine rT hG 4 80 d_ rfl k_ λa4 hG=>?_;exact Rn.plain rfl (Rn.ends rfl (.inr ⟨_,rfl⟩) (Rn.take (ds:=[]) hG.defers hI9.list (Rn.now ⟨⟨a4.tmps,[]⟩,_,.string (vt KS s h wd sh n q msg),rfl,rfl,hG.slot 4 _ rfl,rfl,hI9.old.trans (eR _ _ o_)⟩)))

def bV(t:Int):Nat:=if t=5 then 5 else if t=226 then 2 else 0
def cY(c:Int):Nat:=if c=2 then 2 else if c=3 then 4 else if c=4 then 8 else 0
def dN(c:Int):Nat:=if c=2 then 133 else if c=3 then 67 else if c=4 then 34 else 0
def dH(c:Int):Nat:=if c=2 then 6 else if c=3 then 4 else 0
def bc(b:ByteArray)(i j:Nat):Int:=cM (b.extract i j).data.toList
def gE(b:ByteArray):eD:={tree:=b.extract 0 4,chains:=b.extract 4 8,id:=b.extract 8 24,root:=b.extract 24 b.size,height:=bV (bc b 0 4),width:=cY (bc b 4 8),count:=dN (bc b 4 8),shift:=dH (bc b 4 8),q:=0,salt:=⟨#[]⟩,links:=⟨#[]⟩,path:=⟨#[]⟩}
def i8:Array Value:=#[.string ⟨#[]⟩,.string ⟨#[]⟩,.string ⟨#[]⟩,.string ⟨#[]⟩,.int .i64 0,.int .i64 0,.int .i64 0,.int .i64 0]
def fF(b:ByteArray):Prop:=b.size=56/\bV (bc b 0 4)≠0/\cY (bc b 4 8)≠0
section
variable{o:Oper}{y z u:Operand}{t:TypeId}{m n:Int}
theorem lU(QH:o.op=.binOp .neq 3 x y t)(hx:ev x=.int .i64 m)(hy:ev y=.int .i64 n):(execOp ev o).run prog w=.ok (.value (.bool (m !=n))) w:=by
 simp[execOp,QH,hx,hy,go_sem]
theorem HI(QH:o.op=.binOp .eql 132 x y t)(hx:ev x=.int .u64 m)(hy:ev y=.int .u64 n):(execOp ev o).run prog w=.ok (.value (.bool (m==n))) w:=by
 simp[execOp,QH,hx,hy,go_sem]
theorem yh(QH:o.op=.alloc 115):(execOp ev o).run prog w=.ok (.value (.pk w.heap.size 0)) (w.alloc (.cells i8 115)):=by
 have e:execOp ev o=(do pure (.value (←Instr.alloc 115 true (.tuple #[])))):=by simp only[execOp,QH]
 have h2:(do pure (.value (←Instr.alloc 115 true (.tuple #[]))):Sem Next).run prog w=.ok (.value (.pk w.heap.size 0)) (w.alloc (.cells i8 115)):=by kernel_rfl
 rw[e,h2]
theorem DR(QH:o.op=.build 115 #[]):(execOp ev o).run prog w=.ok (.value (.agg i8)) w:=by
 have e:execOp ev o=(do pure (.value (←Instr.build 115 #[]))):=by simp[execOp,QH]
 have h2:(do pure (.value (←Instr.build 115 #[])):Sem Next).run prog w=.ok (.value (.agg i8)) w:=by kernel_rfl
 rw[e,h2]
theorem DZ{a b c d:ByteArray}(QH:o.op=.build 115 #[(0,x),(1,y),(2,z),(3,u)])(h1:ev x=.string a)(h2:ev y=.string b)(h3:ev z=.string c)(h4:ev u=.string d):
 (execOp ev o).run prog w=.ok (.value (.agg #[.string a,.string b,.string c,.string d,.int .i64 0,.int .i64 0,.int .i64 0,.int .i64 0])) w:=by
 have e:execOp ev o=(do pure (.value (←Instr.build 115 #[(0,.string a),(1,.string b),(2,.string c),(3,.string d)]))):=by simp[execOp,QH,h1,h2,h3,h4]
 have h2:(do pure (.value (←Instr.build 115 #[(0,.string a),(1,.string b),(2,.string c),(3,.string d)])):Sem Next).run prog w=.ok (.value (.agg #[.string a,.string b,.string c,.string d,.int .i64 0,.int .i64 0,.int .i64 0,.int .i64 0])) w:=by kernel_rfl
 rw[e,h2]
end
theorem we:(prog.info? 115).map (·.size)=some 8:=by kernel_rfl
theorem iN{b:Frame}{k:List Item}{m1:Nat}(hF:ay F N ds a)(d x j:Nat)(c:Int)(hd:d<N)(hj:j<8)(hx:F.lookup x=some (.pk b4 0))
 (h1:(ops[m]?).map (λo=>(o.dst,o.op,o.guard))=some (some d,.fieldAddr 115 (.tmp x) j,none)) (h2:(ops[m1]?).map (λo=>(o.dst,o.op,o.guard))=some (none,.store 3 (.tmp d) (.const (.int .i64 c)),none)) (R0:w.heap[b4]?=some (.cells cur 115)) {v0:Value} (Tz:cur[j]?=some v0)
 (next:∀a' w',ay F N ds a'->w'.heap[b4]?=some (.cells (cur.setIfInBounds j (.int .i64 c)) 115)->(∀M,M<=b4->Below M w w')->Rn kX Goal (b.atR a' (.inRegion ops rest::k)) cs w') (hFd:F.lookup d=none):Rn kX Goal (b.atR a (.inRegion ops (m::m1::rest)::k)) cs w:=by
 have hz:lS prog 115 j=true:=by rcases(by omega:j=0\/j=1\/j=2\/j=3\/j=4\/j=5\/j=6\/j=7)with rfl|rfl|rfl|rfl|rfl|rfl|rfl|rfl<;>kernel_rfl
 refine Rn.op hF d (.fieldAddr 115 (.tmp x) j) hd h1 s_ (λo ho=>lc j hj ho (hF.get hx)) (ok:=xY hz) λa hF2=>?_;refine il hF2 (.store 3 (.tmp d) (.const (.int .i64 c))) h2 s_ (λo ho=>(dr (w:=w) (b:=b4) (k:=j) (v:=.int .i64 c) (v0:=v0) rfl rfl k_ ho (hF2.get (d:=d) (by simp[List.lookup])) rfl (by rw[ak R0];exact Tz) (by simp[World.frozen?,R0])).1) λa hF3=>?_;refine next a _ (hF3.sub λe v he=>?_) (jl R0) λM hM=>cN w _ _ hM
 have QQ:e≠d:=λq=>by rw[q,hFd]at he;cases he
 simp only[List.lookup,show(e==d)=false from by simpa using QQ];exact he
theorem M0{b:ByteArray}(hb56:b.size=56){v2:Value}(hF:ay [(0,.string b),(2,v2)] 48 [] a)
 (next:∀a w' b4,w.heap.size<=b4->Bw w w'->w'.heap[b4]?=some (.cells #[.string (b.extract 0 4),.string (b.extract 4 8),.string (b.extract 8 24),.string (b.extract 24 b.size),.int .i64 0,.int .i64 0,.int .i64 0,.int .i64 0] 115)->ay [(4,.pk b4 0),(0,.string b),(2,v2)] 48 [] a->Rn kX Goal ((base 69).atR a K) cs w'):
 Rn kX Goal ((base 69).atR a (.code (rD f69 3)::K)) cs w:=by
 refine gI 10 hF ?_;refine Gx.q ?_;refine Gx.q ?_ (y:=λo a w ho z=>l0 (n:=4) ho gx rfl o_);refine Gx.q ?_;refine Gx.q ?_ (y:=λo a w ho z=>(dQ (m:=4) (n:=8) ho gx rfl rfl o_ o_).1);refine Gx.q ?_;refine Gx.q ?_ (y:=λo a w ho z=>(dQ (m:=8) (n:=24) ho gx rfl rfl o_ o_).1);refine Gx.q ?_;refine Gx.q ?_ (y:=λo a w ho z=>kY (n:=24) ho gx rfl o_);refine Gx.q ?_ (y:=λo a w ho z=>DZ ho gx gx gx gx);refine nF [] (V:=λb=>.pk b 0) (λu=>Gw.e λa w' hF hb hM rest hgo=>?_) (y:=λo a w ho _=>yh ho);obtain⟨b4,rfl,h1,h3⟩:=hM.1 rfl;exact aM hF (λo ho=>aJ ho (hF.get (d:=4) rfl) (hF.get (d:=17) rfl) h3 we rfl (by simp[Value.oneCell'])) λa hF=>hgo _ _ (next a _ b4 h1 (hb.trans (aU w' b4 _ h1)) (setRow_heap w' b4 _ _ _ _ h3) (hF.only ⟨rfl,rfl,rfl,trivial⟩))

def wH(f:Func):Code:=.seq (.seq (rG f 10) (.block 1 (.seq (rG f 12) (.cond (.tmp 32) (rG f 13) (.seq (rG f 14) (.cond (.tmp 37) (rG f 15) (.seq (rG f 16) (.cond (.tmp 42) (rG f 17) (.seq (rG f 11) .ret))))))))) (.seq (rG f 18) .ret)
def Dd(f:Func):Code:=.seq (.seq (rG f 4) (.block 0 (.seq (rG f 6) (.cond (.tmp 22) (rG f 7) (.seq (rG f 8) (.cond (.tmp 25) (rG f 9) (.seq (rG f 5) .ret))))))) (wH f)
theorem Nc:f69.body=some (.seq (rG f69 0) (.seq (.seq (rG f69 1) (.cond (.tmp 7) (.seq (rG f69 2) .ret) .skip)) (.seq (rD f69 3) (Dd f69)))):=by kernel_rfl
def Ke(b:ByteArray)(w0:World)(e:Ending)(w':World):Prop:=((fF b/\e=.returned (.tuple #[.agg (gE b).key,.bool true]))\/(¬fF b/\e=.returned (.tuple #[.agg i8,.bool false])))/\Bw w0 w'
def ot(b:ByteArray)(w0:World)(cs:List Frame)(g:Goroutine)(w':World):Prop:=∃(a:Act) (k:List Item) (bk:Nat) (cells:Array Value) (tt:TypeId) (v:Value),g=cQ {(base 69).atR a k with mode:=.returning} cs/\a.defers=[]/\a.tmps[2]?=some (.pk bk 0)/\w'.heap[bk]?=some (.cells cells tt)/\cells.size=8/\a.tmps[3]?=some v/\Ke b w0 (.returned (.tuple #[.agg cells,v])) w'
section
variable{b:ByteArray}{k:List Item}
theorem FI(id d:Nat)(hd:d<48/\d≠2)(UT:¬fF b)(hF:ay [(2,.pk w0.heap.size 0)] 48 [] a)(hN:w.heap[w0.heap.size]?=some (.cells i8 115))(hold:Bw w0 w)(hL:List.range (bC f69 id).size=[0,1,2])
 (h0:((bC f69 id)[0]?).map (λo=>(o.dst,o.op,o.guard))=some (some d,.build 115 #[],none)) (h1:((bC f69 id)[1]?).map (λo=>(o.dst,o.op,o.guard))=some (none,.store 115 (.tmp 2) (.tmp d),none)) (h2:((bC f69 id)[2]?).map (λo=>(o.dst,o.op,o.guard))=some (some 3,.assign (.const (.bool false)),none)):
 Rn kX (ot b w0 cs) ((base 69).atR a (.code (.seq (rG f69 id) .ret)::k)) cs w:=by
 refine Rn.plain rfl (Rn.region hL ?_);refine Rn.op hF d (.build 115 #[]) hd.1 h0 s_ (λo ho=>DR ho) λa hF=>?_;have e2:((d,Value.agg i8)::[(2,.pk w0.heap.size 0)]:List (Nat×Value)).lookup 2=some (.pk w0.heap.size 0):=by
  simp[List.lookup,show(2==d)=false from by simpa using Ne.symm hd.2]
 refine il hF (.store 115 (.tmp 2) (.tmp d)) h1 s_ (λo ho=>aJ (cells:=i8) ho (hF.get (d:=2) e2) (hF.get (d:=d) (by simp[List.lookup])) hN we rfl (by simp[i8,Value.oneCell'])) λa hF=>?_;refine uN hF 3 (.bool false) d_ h2 λa hF=>?_;refine Rn.plain rfl (Rn.ends rfl (.inr ⟨_,rfl⟩) (Rn.now ⟨a,_,w0.heap.size,i8,115,.bool false,rfl,hF.defers,hF.slot 2 _ ?_,setRow_heap w _ _ _ _ _ hN,rfl,hF.slot 3 _ (by simp[List.lookup]),.inr ⟨UT,rfl⟩,hold.trans (aU _ _ _ (Nat.le_refl _))⟩));simp[List.lookup,show(2==d)=false from by simpa using Ne.symm hd.2]
theorem LQ(Sr:fF b)(hF:ay [(2,.pk w0.heap.size 0),(4,.pk b4 0)] 48 [] a)(hN:w.heap[w0.heap.size]?=some (.cells i8 115))(hold:Bw w0 w)(R0:w.heap[b4]?=some (.cells (gE b).key 115)):
 Rn kX (ot b w0 cs) ((base 69).atR a (.code (.seq (rG f69 18) .ret)::k)) cs w:=by
 refine af hF (λo ho=>fQ (s:=gE b) ho (hF.get (d:=4) rfl) R0 λ_ _=>rfl) λa hF=>?_;refine aM hF (λo ho=>aJ ho (hF.get (d:=2) rfl) (hF.get (d:=47) rfl) hN we rfl (by simp[eD.key,Value.oneCell'])) λa hF=>?_;refine a9 hF λa hF=>?_;exact Rn.plain rfl (Rn.ends rfl (.inr ⟨_,rfl⟩) (Rn.now ⟨a,_,w0.heap.size,(gE b).key,115,.bool true,rfl,hF.defers,hF.slot 2 _ rfl,setRow_heap w _ _ _ _ _ hN,rfl,hF.slot 3 _ rfl,.inl ⟨Sr,rfl⟩,hold.trans (aU _ _ _ (Nat.le_refl _))⟩))
def PF(b:ByteArray)(h w c s:Int):Array Value:=#[.string (b.extract 0 4),.string (b.extract 4 8),.string (b.extract 8 24),.string (b.extract 24 b.size),.int .i64 h,.int .i64 w,.int .i64 c,.int .i64 s]
theorem Eb(hb:b.size=56)(hH:bV (bc b 0 4)≠0)(hF:ay [(2,.pk w0.heap.size 0),(4,.pk b4 0)] 48 [] a)(hN:w.heap[w0.heap.size]?=some (.cells i8 115))(hold:Bw w0 w)(R0:w.heap[b4]?=some (.cells (PF b (bV (bc b 0 4)) 0 0 0) 115))(QK:w0.heap.size<b4):
 Rn kX (ot b w0 cs) ((base 69).atR a (.code (wH f69)::k)) cs w:=by
 have QY:(b.extract 4 8).size<=8:=by rw[ByteArray.size_extract];omega
 refine af hF (λo ho=>lc 1 d_ ho (hF.g 4)) λa hF=>?_;refine a9 hF λa hF=>?_;refine bf hF func88 (R:=λv w'=>v=.int .u64 (bc b 4 8)/\w'=w) ((dL (b.extract 4 8) w QY).mono λe w' h=>⟨_,h.1,rfl,h.2⟩) λv w1 hv a hF=>?_;obtain⟨rfl,rfl⟩:=hv;have fin:∀(a:Act) (w2:World),fF b->(gE b).key=PF b (bV (bc b 0 4)) (cY (bc b 4 8)) (dN (bc b 4 8)) (dH (bc b 4 8))->w2.heap[b4]?=some (.cells (PF b (bV (bc b 0 4)) (cY (bc b 4 8)) (dN (bc b 4 8)) (dH (bc b 4 8))) 115)->(∀M,M<=b4->Below M w1 w2)->ay [(2,.pk w0.heap.size 0),(4,.pk b4 0)] 48 [] a->
  Rn kX (ot b w0 cs) ((base 69).atR a (.code (.seq (rG f69 18) .ret)::k)) cs w2:=by
  intro a w2 Sr Sg h4 hB hF;have QN:=hB (w0.heap.size+1) o_;exact LQ Sr hF ((QN.block _ o_).trans hN) (hold.trans (QN.mono o_)) (by rw[Sg];exact h4)
 iterate 2 refine a9 hF λa hF=>?_
 refine Rn.plain rfl (Rn.cond _ (hF.g 32) ?_);have e8:∀(x y:Int) (h:x=y),(x==y)=true:=λx y h=>by simpa using h
 have e9:∀(x y:Int) (h:x≠y),(x==y)=false:=λx y h=>by simpa using h
 by_cases c2:bc b 4 8=2
 .rw[e8 _ _ c2];have hF:ay [(2,.pk w0.heap.size 0),(4,.pk b4 0)] 48 [] a:=hF.only ⟨rfl,rfl,trivial⟩;refine Rn.gr ?_;refine iN hF 34 4 5 2 d_ d_ rfl k_ k_ R0 rfl (λa w2 hF h2 RD=>?_) rfl;refine iN hF 35 4 6 133 d_ d_ rfl k_ k_ h2 rfl (λa w3 hF h3 RF=>?_) rfl;refine iN hF 36 4 7 6 d_ d_ rfl k_ k_ h3 rfl (λa w4 hF h4 Ry=>?_) rfl;have hw:cY (bc b 4 8)=2/\dN (bc b 4 8)=133/\dH (bc b 4 8)=6:=by rw[c2];decide
  refine Rn.plain rfl (Rn.plain rfl (fin a w4 ⟨hb,hH,by rw[hw.1];decide⟩ rfl ?_ (λM hM=>((RD M hM).trans (RF M hM)).trans (Ry M hM)) hF));rw[hw.1,hw.2.1,hw.2.2];exact h4
 rw[e9 _ _ c2]
 iterate 2 refine a9 hF λa hF=>?_
 refine Rn.plain rfl (Rn.cond _ (hF.g 37) ?_);by_cases c3:bc b 4 8=3
 .rw[e8 _ _ c3];have hF:ay [(2,.pk w0.heap.size 0),(4,.pk b4 0)] 48 [] a:=hF.only ⟨rfl,rfl,trivial⟩;refine Rn.gr ?_;refine iN hF 39 4 5 4 d_ d_ rfl k_ k_ R0 rfl (λa w2 hF h2 RD=>?_) rfl;refine iN hF 40 4 6 67 d_ d_ rfl k_ k_ h2 rfl (λa w3 hF h3 RF=>?_) rfl;refine iN hF 41 4 7 4 d_ d_ rfl k_ k_ h3 rfl (λa w4 hF h4 Ry=>?_) rfl;have hw:cY (bc b 4 8)=4/\dN (bc b 4 8)=67/\dH (bc b 4 8)=4:=by rw[c3];decide
  refine Rn.plain rfl (Rn.plain rfl (fin a w4 ⟨hb,hH,by rw[hw.1];decide⟩ rfl ?_ (λM hM=>((RD M hM).trans (RF M hM)).trans (Ry M hM)) hF));rw[hw.1,hw.2.1,hw.2.2];exact h4
 rw[e9 _ _ c3]
 iterate 2 refine a9 hF λa hF=>?_
 refine Rn.plain rfl (Rn.cond _ (hF.g 42) ?_);by_cases c4:bc b 4 8=4
 .rw[e8 _ _ c4];have hF:ay [(2,.pk w0.heap.size 0),(4,.pk b4 0)] 48 [] a:=hF.only ⟨rfl,rfl,trivial⟩;refine Rn.gr ?_;refine iN hF 44 4 5 8 d_ d_ rfl k_ k_ R0 rfl (λa w2 hF h2 RD=>?_) rfl;refine iN hF 45 4 6 34 d_ d_ rfl k_ k_ h2 rfl (λa w3 hF h3 RF=>?_) rfl;refine iN hF 46 4 7 0 d_ d_ rfl k_ k_ h3 rfl (λa w4 hF h4 Ry=>?_) rfl;have hw:cY (bc b 4 8)=8/\dN (bc b 4 8)=34/\dH (bc b 4 8)=0:=by rw[c4];decide
  refine Rn.plain rfl (Rn.plain rfl (fin a w4 ⟨hb,hH,by rw[hw.1];decide⟩ rfl ?_ (λM hM=>((RD M hM).trans (RF M hM)).trans (Ry M hM)) hF));rw[hw.1,hw.2.1,hw.2.2];exact h4
 rw[e9 _ _ c4];refine FI 11 31 d_ (λh=>h.2.2 ?_) (hF.only ⟨rfl,trivial⟩) hN hold rfl k_ k_ k_;simp[cY,c2,c3,c4]
theorem Ba(hb:b.size=56)(hF:ay [(2,.pk w0.heap.size 0),(4,.pk b4 0)] 48 [] a)(hN:w.heap[w0.heap.size]?=some (.cells i8 115))(hold:Bw w0 w)(R0:w.heap[b4]?=some (.cells (PF b 0 0 0 0) 115))(QK:w0.heap.size<b4):
 Rn kX (ot b w0 cs) ((base 69).atR a (.code (Dd f69)::k)) cs w:=by
 have QY:(b.extract 0 4).size<=8:=by rw[ByteArray.size_extract];omega
 refine af hF (λo ho=>lc 0 d_ ho (hF.g 4)) λa hF=>?_;refine a9 hF λa hF=>?_;refine bf hF func88 (R:=λv w'=>v=.int .u64 (bc b 0 4)/\w'=w) ((dL (b.extract 0 4) w QY).mono λe w' h=>⟨_,h.1,rfl,h.2⟩) λv w1 hv a hF=>?_;obtain⟨rfl,rfl⟩:=hv;have e8:∀(x y:Int) (h:x=y),(x==y)=true:=λx y h=>by simpa using h
 have e9:∀(x y:Int) (h:x≠y),(x==y)=false:=λx y h=>by simpa using h
 iterate 2 refine a9 hF λa hF=>?_
 refine Rn.plain rfl (Rn.cond _ (hF.g 22) ?_);by_cases c5:bc b 0 4=5
 .rw[e8 _ _ c5];have hF:ay [(2,.pk w0.heap.size 0),(4,.pk b4 0)] 48 [] a:=hF.only ⟨rfl,rfl,trivial⟩;refine Rn.gr ?_;refine iN hF 24 4 4 5 d_ d_ rfl k_ k_ R0 rfl (λa w2 hF h2 RD=>?_) rfl;have hH:bV (bc b 0 4)=5:=by rw[c5];decide
  have QN:=RD (w0.heap.size+1) o_;refine Rn.plain rfl (Rn.plain rfl (Eb hb (by rw[hH];decide) hF ((QN.block _ o_).trans hN) (hold.trans (QN.mono o_)) ?_ QK));rw[hH];exact h2
 rw[e9 _ _ c5]
 iterate 2 refine a9 hF λa hF=>?_
 refine Rn.plain rfl (Rn.cond _ (hF.g 25) ?_);by_cases c6:bc b 0 4=226
 .rw[e8 _ _ c6];have hF:ay [(2,.pk w0.heap.size 0),(4,.pk b4 0)] 48 [] a:=hF.only ⟨rfl,rfl,trivial⟩;refine Rn.gr ?_;refine iN hF 27 4 4 2 d_ d_ rfl k_ k_ R0 rfl (λa w2 hF h2 RD=>?_) rfl;have hH:bV (bc b 0 4)=2:=by rw[c6];decide
  have QN:=RD (w0.heap.size+1) o_;refine Rn.plain rfl (Rn.plain rfl (Eb hb (by rw[hH];decide) hF ((QN.block _ o_).trans hN) (hold.trans (QN.mono o_)) ?_ QK));rw[hH];exact h2
 rw[e9 _ _ c6];refine FI 5 21 d_ (λh=>h.2.1 ?_) (hF.only ⟨rfl,trivial⟩) hN hold rfl k_ k_ k_;simp[bV,c5,c6]
end
theorem vB(b:ByteArray)(w:World):Cl kX 69 #[.string b] w (Ke b w):=by
 refine ff (t:=2) (u:=3) (ty:=115) (n:=8) func69 rfl underlying115 rfl we λcs=>?_;show Rn _ (ot b w cs) _ cs w;refine bm (N:=48) func69 Nc λa hF=>?_;refine bl hF (λo ho=>yh ho) λw1 a hold hN QY hF=>?_
 iterate 4 refine a9 hF λa hF=>?_
 refine Rn.plain rfl (Rn.cond _ (hF.g 7) ?_);by_cases W7:b.size=56
 .rw[show((b.size:Int) !=56)=false from by simp;omega];refine Rn.plain rfl (Rn.plain rfl ?_);refine M0 W7 (hF.only ⟨rfl,rfl,trivial⟩) λa w2 b4 h1 h2 h3 hF=>?_;exact Ba W7 (hF.only ⟨rfl,rfl,trivial⟩) ((h2.block _ o_).trans hN) (ab hold o_ h2) h3 o_
 .rw[show((b.size:Int) !=56)=true from by simp;omega];exact FI 2 8 d_ (λh=>W7 h.1) (hF.only ⟨rfl,trivial⟩) hN hold rfl k_ k_ k_

def f_:Array Value:=#[.string ⟨#[]⟩,.string ⟨#[]⟩,.string ⟨#[]⟩,.string ⟨#[]⟩,.int .i64 0,.int .i64 0,.int .i64 0,.int .i64 0,.int .i64 0,.string ⟨#[]⟩,.string ⟨#[]⟩,.string ⟨#[]⟩]
def i_(k:eD)(h n:Nat)(b:ByteArray):Prop:=b.size=44+32*n+32*h/\bc b 0 4<2^h/\(b.extract 4 8).data.toList=k.chains.data.toList/\(b.extract (40+32*n) (44+32*n)).data.toList=k.tree.data.toList
def rX(k:eD)(n:Nat)(b:ByteArray):eD:={k with q:=bc b 0 4,salt:=b.extract 8 40,links:=b.extract 40 (40+32*n),path:=b.extract (44+32*n) b.size}
section
variable{o:Oper}{y z u v:Operand}{t:TypeId}{m n:Int}
theorem kZ{a b:ByteArray}(QH:o.op=.binOp .neq 9 x y t)(hx:ev x=.string a)(hy:ev y=.string b):(execOp ev o).run prog w=.ok (.value (.bool (a.data.toList !=b.data.toList))) w:=by
 have e1:=ByteArray.toList_eq a;have e2:=ByteArray.toList_eq b;simp[execOp,QH,hx,hy,go_sem,e1,e2,bne]
theorem Ho(QH:o.op=.binOp .geq 132 x y t)(hx:ev x=.int .u64 m)(hy:ev y=.int .u64 n):(execOp ev o).run prog w=.ok (.value (.bool (decide (m≥n)))) w:=by
 simp[execOp,QH,hx,hy,go_sem]
theorem Hf{k:Nat}(QH:o.op=.binOp .shl 132 x y t)(hx:ev x=.int .u64 m)(hy:ev y=.int .i64 k)(h:k<=64)(hb:0<=m*2^k/\m*2^k<18446744073709551616):(execOp ev o).run prog w=.ok (.value (.int .u64 (m*2^k))) w:=by
 have e:IntKind.u64.wrap (m*2^k)=m*2^k:=by rw[IntKind.wrap_u64];omega
 simp[execOp,QH,hx,hy,go_sem,e]
theorem E1(QH:o.op=.convert 132 3 x)(hx:ev x=.int .u64 m)(h:0<=m/\m<9223372036854775808):(execOp ev o).run prog w=.ok (.value (.int .i64 m)) w:=by
 have h1:prog.underlying 132=some (.int .u64):=by kernel_rfl
 have h2:prog.underlying 3=some (.int .i64):=by kernel_rfl
 have e:IntKind.i64.wrap m=m:=by rw[IntKind.wrap_i64];omega
 simp[execOp,QH,hx,go_sem,h1,h2,e]
theorem DO(QH:o.op=.build 119 #[]):(execOp ev o).run prog w=.ok (.value (.agg f_)) w:=by
 have e:execOp ev o=(do pure (.value (←Instr.build 119 #[]))):=by simp[execOp,QH]
 have h2:(do pure (.value (←Instr.build 119 #[])):Sem Next).run prog w=.ok (.value (.agg f_)) w:=by kernel_rfl
 rw[e,h2]
theorem Eo(QH:o.op=.alloc 119):(execOp ev o).run prog w=.ok (.value (.pk w.heap.size 0)) (w.alloc (.cells f_ 119)):=by
 have e:execOp ev o=(do pure (.value (←Instr.alloc 119 true (.tuple #[])))):=by simp only[execOp,QH]
 have h2:(do pure (.value (←Instr.alloc 119 true (.tuple #[]))):Sem Next).run prog w=.ok (.value (.pk w.heap.size 0)) (w.alloc (.cells f_ 119)):=by kernel_rfl
 rw[e,h2]
theorem KL{s:eD}(QH:o.op=.build 119 #[(0,x),(1,y),(2,z),(3,u),(4,v)])(h1:ev x=.agg s.key)(h2:ev y=.int .i64 s.q)(h3:ev z=.string s.salt)(h4:ev u=.string s.links)(h5:ev v=.string s.path):
 (execOp ev o).run prog w=.ok (.value (.agg s.cells)) w:=by
 have e:execOp ev o=(do pure (.value (←Instr.build 119 #[(0,.agg s.key),(1,.int .i64 s.q),(2,.string s.salt),(3,.string s.links),(4,.string s.path)]))):=by simp[execOp,QH,h1,h2,h3,h4,h5]
 have h2:(do pure (.value (←Instr.build 119 #[(0,.agg s.key),(1,.int .i64 s.q),(2,.string s.salt),(3,.string s.links),(4,.string s.path)])):Sem Next).run prog w=.ok (.value (.agg s.cells)) w:=by kernel_rfl
 rw[e,h2]
end
theorem Al:(prog.info? 119).map (·.size)=some 12:=by kernel_rfl

section
variable{k:eD}{b:ByteArray}{h T:Nat}{c1 n1 n2:Bool}
theorem L_(U9:H2=2^h)(hh:k.height=h)(hh8:h<=8)(Wt:H2<=256)(hb:T+4<=b.size)(VZ:8<=b.size)(R9:c1=decide (bc b 0 4≥(H2:Int)))(SA:n1=((b.extract 4 8).data.toList !=k.chains.data.toList))(RV:n2=((b.extract T (T+4)).data.toList !=k.tree.data.toList))
 (Sg:w.heap[N]?=some (.cells k.key 115)) (hF:ay [(1,.string b),(2,.pk N 0),(6,.int .i64 T),(7,.int .i64 ((T+4:Nat):Int)),(8,.int .u64 (bc b 0 4)),(4,.pk (N+1) 0)] 61 [] a)
 (next:∀a w',Bw w w'->ay [(47,.bool (c1||n1||n2)),(1,.string b),(2,.pk N 0),(6,.int .i64 T),(7,.int .i64 ((T+4:Nat):Int)),(8,.int .u64 (bc b 0 4)),(4,.pk (N+1) 0)] 61 [] a->Rn kX Goal ((base 70).atR a K) cs w'):
 Rn kX Goal ((base 70).atR a (.code (rD f70 6)::K)) cs w:=by
 have hp:(1:Int)*2^h=(H2:Int):=by rw[Int.one_mul,U9,Int.natCast_pow];rfl
 refine bY hF ?_
 iterate 2 refine Gx.q ?_
 refine Gx.q ?_ (v:=.int .i64 h) (y:=λo a w ho z=>(an az ho gx ((ak (bk z.b Sg) 4).trans (by rw[←hh];rfl))).1);refine Gx.q ?_ (y:=λo a w ho z=>(Hf (m:=1) (k:=h) ho rfl gx o_ (by rw[hp];omega)).trans (by rw[hp]));refine Gx.q ?_ (v:=.bool c1) (y:=λo a w ho z=>R9▸Ho ho gx gx);refine Gx.q ?_;cases c1 with
 |true=>
  iterate 5 refine Gx.s ?_
  refine Gx.q ?_ (v:=.bool true) (y:=λo a w ho z=>fB ho gx);refine Gx.q ?_
  iterate 7 refine Gx.s ?_
  refine Gx.q ?_ (v:=.bool true) (y:=λo a w ho z=>fB ho gx);exact Gx.e λa w' hF hb _=>next a w' hb (hF.only ⟨rfl,rfl,rfl,rfl,rfl,rfl,rfl,trivial⟩)
 |false=>
  refine Gx.q ?_;refine Gx.q ?_ (y:=λo a w ho z=>(dQ (m:=4) (n:=8) ho gx rfl rfl o_ o_).1)
  iterate 2 refine Gx.q ?_
  refine Gx.q ?_ (v:=.bool n1) (y:=λo a w ho z=>SA▸kZ ho gx gx)
  iterate 2 refine Gx.q ?_
  cases n1 with
  |true=>
   iterate 7 refine Gx.s ?_
   refine Gx.q ?_ (v:=.bool true) (y:=λo a w ho z=>fB ho gx);exact Gx.e λa w' hF hb _=>next a w' hb (hF.only ⟨rfl,rfl,rfl,rfl,rfl,rfl,rfl,trivial⟩)
  |false=>
   iterate 6 refine Gx.q ?_
   refine Gx.q ?_ (v:=.bool n2) (y:=λo a w ho z=>RV▸kZ ho gx gx);refine Gx.q ?_;exact Gx.e λa w' hF hb _=>next a w' hb (hF.only ⟨rfl,rfl,rfl,rfl,rfl,rfl,rfl,trivial⟩)
end

section
variable{k s:eD}{b:ByteArray}{T:Nat}
theorem IR(hs:s=rX k n b)(hT:T=40+32*n)(hb:T+4<=b.size)(hq:0<=bc b 0 4/\bc b 0 4<9223372036854775808)(Sg:w.heap[N]?=some (.cells k.key 115))(Ro:w.heap[N+1]?=some (.cells f_ 119))(hF:ay [(1,.string b),(2,.pk N 0),(6,.int .i64 T),(7,.int .i64 ((T+4:Nat):Int)),(8,.int .u64 (bc b 0 4)),(4,.pk (N+1) 0)] 61 [] a)
 (next:∀a w',Below (N+1) w w'->w'.heap[N+1]?=some (.cells s.cells 119)->ay [(5,.bool true),(4,.pk (N+1) 0)] 61 [] a->Rn kX Goal ((base 70).atR a K) cs w'):
 Rn kX Goal ((base 70).atR a (.code (rD f70 8)::K)) cs w:=by
 have hltN:=(Array.getElem?_eq_some_iff.1 Ro).1;have X_:s.links=b.extract 40 T:=by rw[hs,hT];rfl
 have hpath:s.path=b.extract (T+4) b.size:=by rw[hs,hT];show b.extract (44+32*n) b.size=_;rw[show 40+32*n+4=44+32*n from by omega]
 have T_:s.salt=b.extract 8 40:=by rw[hs];rfl
 have hsq:s.q=bc b 0 4:=by rw[hs];rfl
 have hskey:s.key=k.key:=by rw[hs];rfl
 refine FY 12 hF ?_;refine Gx.q ?_ (y:=λo a w ho z=>fQ (s:=k) ho gx (bk z.b Sg) λ_ _=>rfl);refine Gx.q ?_;refine Gx.q ?_ (y:=λo a w ho z=>E1 ho gx hq);refine Gx.q ?_;refine Gx.q ?_ (y:=λo a w ho z=>(dQ (m:=8) (n:=40) ho gx rfl rfl o_ o_).1)
 iterate 2 refine Gx.q ?_
 refine Gx.q ?_ (y:=λo a w ho z=>(dQ (m:=40) (n:=T) ho gx rfl gx o_ o_).1)
 iterate 2 refine Gx.q ?_
 refine Gx.q ?_ (y:=λo a w ho z=>kY (n:=T+4) ho gx gx hb);rw[←hskey,←hsq,←T_,←X_,←hpath];refine Gx.q ?_ (y:=λo a w ho z=>KL (s:=s) ho gx gx gx gx gx);refine Gx.e λa w' hF hb _ rest hgo=>?_;have B:=bk hb Ro;refine aM hF (λo ho=>aJ (cells:=s.cells) ho (hF.g 4) (hF.g 60) B Al rfl (by simp[eD.cells,Value.oneCell'])) λa hF=>hgo _ _ λrest hgo=>?_;exact a9 hF λa hF=>hgo _ _ (next a _ ((hb.mono o_).trans (aU w' (N+1) _ (Nat.le_refl _))) (setRow_heap w' (N+1) _ _ _ _ B) (hF.only ⟨rfl,rfl,trivial⟩))
end
theorem Nb:f70.body=some (.seq (rG f70 0) (.seq (rG f70 1) (.seq (rG f70 2) (.seq (.seq (rG f70 3) (.cond (.tmp 22) (.seq (rG f70 4) .ret) .skip))
 (.seq (rG f70 5) (.seq (.seq (rD f70 6) (.cond (.tmp 47) (.seq (rG f70 7) .ret) .skip)) (.seq (rD f70 8) .ret))))))):=by kernel_rfl
def K9(k:eD)(h n:Nat)(b:ByteArray)(w0:World)(e:Ending)(w':World):Prop:=((i_ k h n b/\e=.returned (.tuple #[.agg (rX k n b).cells,.bool true]))\/(¬i_ k h n b/\e=.returned (.tuple #[.agg f_,.bool false])))/\Bw w0 w'
def Gb(k:eD)(h n:Nat)(b:ByteArray)(w0:World)(cs:List Frame)(g:Goroutine)(w':World):Prop:=∃(a:Act) (K:List Item) (bk:Nat) (cells:Array Value) (tt:TypeId) (v:Value),g=cQ {(base 70).atR a K with mode:=.returning} cs/\a.defers=[]/\a.tmps[4]?=some (.pk bk 0)/\w'.heap[bk]?=some (.cells cells tt)/\cells.size=12/\a.tmps[5]?=some v/\K9 k h n b w0 (.returned (.tuple #[.agg cells,v])) w'
section
variable{kk:eD}{h:Nat}{b:ByteArray}{k:List Item}
theorem K7(id d:Nat)(hd:d<61/\d≠4)(UT:¬i_ kk h n b)(hF:ay [(4,.pk (w0.heap.size+1) 0)] 61 [] a)(hN:w.heap[w0.heap.size+1]?=some (.cells f_ 119))(hold:Bw w0 w)(hL:List.range (bC f70 id).size=[0,1,2])
 (h0:((bC f70 id)[0]?).map (λo=>(o.dst,o.op,o.guard))=some (some d,.build 119 #[],none)) (h1:((bC f70 id)[1]?).map (λo=>(o.dst,o.op,o.guard))=some (none,.store 119 (.tmp 4) (.tmp d),none)) (h2:((bC f70 id)[2]?).map (λo=>(o.dst,o.op,o.guard))=some (some 5,.assign (.const (.bool false)),none)):
 Rn kX (Gb kk h n b w0 cs) ((base 70).atR a (.code (.seq (rG f70 id) .ret)::k)) cs w:=by
 refine Rn.plain rfl (Rn.region hL ?_);refine Rn.op hF d (.build 119 #[]) hd.1 h0 s_ (λo ho=>DO ho) λa hF=>?_;have e2:((d,Value.agg f_)::[(4,.pk (w0.heap.size+1) 0)]:List (Nat×Value)).lookup 4=some (.pk (w0.heap.size+1) 0):=by
  simp[List.lookup,show(4==d)=false from by simpa using Ne.symm hd.2]
 refine il hF (.store 119 (.tmp 4) (.tmp d)) h1 s_ (λo ho=>aJ (cells:=f_) ho (hF.get (d:=4) e2) (hF.get (d:=d) (by simp[List.lookup])) hN Al rfl (by simp[f_,Value.oneCell'])) λa hF=>?_;refine uN hF 5 (.bool false) d_ h2 λa hF=>?_;refine Rn.plain rfl (Rn.ends rfl (.inr ⟨_,rfl⟩) (Rn.now ⟨a,_,w0.heap.size+1,f_,119,.bool false,rfl,hF.defers,hF.slot 4 _ ?_,setRow_heap w _ _ _ _ _ hN,rfl,hF.slot 5 _ (by simp[List.lookup]),.inr ⟨UT,rfl⟩,hold.trans (aU _ _ _ o_)⟩));simp[List.lookup,show(4==d)=false from by simpa using Ne.symm hd.2]
end
theorem E3(k:eD)(h n:Nat)(hh:k.height=h)(hh8:h<=8)(hn:k.count=n)(RV:n<=1000)(b:ByteArray)(hb:b.size<=1125899906842624)(w:World):Cl kX 70 #[.agg k.key,.string b] w (K9 k h n b w):=by
 refine ff (t:=4) (u:=5) (ty:=119) (n:=12) func70 rfl underlying119 rfl Al λcs=>?_;show Rn _ (Gb k h n b w cs) _ cs w;refine bm (N:=61) func70 Nb λa hF=>?_;refine Rn.gr ?_;refine fG hF 2 0 115 d_ rfl k_ λa hF=>?_;show Rn _ _ _ _ (w.alloc (.cells k.key 115));refine af hF (λo ho=>Eo ho) λa hF=>?_;rw[ao]at hF;have Sg:=(bp (w.alloc (.cells k.key 115)) (.cells f_ 119) (b:=w.heap.size) (by rw[ao];omega)).trans (aK w _);have Ro:=aK (w.alloc (.cells k.key 115)) (.cells f_ 119);rw[ao]at Ro;have hold:Bw w ((w.alloc (.cells k.key 115)).alloc (.cells f_ 119)):=ab (aD w _) (by rw[ao];omega) (aD _ _);revert Sg Ro hold;generalize (w.alloc (.cells k.key 115)).alloc (.cells f_ 119)=w1;intro Sg Ro hold;have hlt1:=(Array.getElem?_eq_some_iff.1 Ro).1
 iterate 2 refine a9 hF λa hF=>?_
 refine af hF (λo ho=>(an (v:=.int .i64 n) az ho (hF.g 9) ((ak Sg 6).trans (by rw[←hn];rfl))).1) λa hF=>?_;refine Rn.op hF 11 (.binOp .mul 3 (.tmp 10) (.const (.int .i64 32)) 3) d_ k_ s_ (λo ho=>(pY ho (hF.g 10) rfl o_).1) λa hF=>?_;refine af hF (λo ho=>ee (m:=40) ho rfl (hF.g 11) o_) λa hF=>?_;rw[show(40:Int)+(n:Int)*32=((40+32*n:Nat):Int)from by omega]at hF
 iterate 3 refine a9 hF λa hF=>?_
 rw[show((40+32*n:Nat):Int)+4=((40+32*n+4:Nat):Int)from by omega]at hF;refine a9 hF λa hF=>?_
 iterate 2 refine a9 hF λa hF=>?_
 refine oY hF 17 7 d_ rfl k_ λa hF=>?_;refine af hF (λo ho=>lc 4 d_ ho (hF.g 2)) λa hF=>?_;refine af hF (λo ho=>(an (v:=.int .i64 h) az ho (hF.g 18) ((ak Sg 4).trans (by rw[←hh];rfl))).1) λa hF=>?_;refine Rn.op hF 20 (.binOp .mul 3 (.tmp 19) (.const (.int .i64 32)) 3) d_ k_ s_ (λo ho=>(pY ho (hF.g 19) rfl o_).1) λa hF=>?_;refine af hF (λo ho=>ee ho (hF.g 17) (hF.g 20) o_) λa hF=>?_;refine af hF (λo ho=>lU ho (hF.g 16) (hF.g 21)) λa hF=>?_;refine Rn.plain rfl (Rn.cond _ (hF.g 22) ?_);by_cases QY:b.size=44+32*n+32*h
 .rw[show((b.size:Int) !=((40+32*n+4:Nat):Int)+(h:Int)*32)=false from by simp;omega];have h0:=i4 (b.extract 0 4).data.toList 4 (by simp;omega);have W8:0<=bc b 0 4/\bc b 0 4<4294967296:=⟨h0.1,by have:=h0.2;rw[show(256:Int)^4=4294967296 from by decide]at this;exact this⟩;refine a9 hF λa hF=>?_;refine af hF (λo ho=>l0 (n:=4) ho (hF.g 24) rfl o_) λa hF=>?_;refine bf hF func88 (R:=λv w'=>v=.int .u64 (bc b 0 4)/\w'=w1) ((dL (b.extract 0 4) w1 (by rw[ByteArray.size_extract];omega)).mono λe w' h=>⟨_,h.1,rfl,h.2⟩) λv w2 hv a hF=>?_;obtain⟨rfl,rfl⟩:=hv;refine a9 hF λa hF=>?_;refine Rn.plain rfl (Rn.plain rfl (Rn.plain rfl ?_));have Wt:2^h<=256:=Nat.le_trans (Nat.pow_le_pow_right d_ hh8) d_;refine L_ (k:=k) (b:=b) (N:=w.heap.size) (H2:=2^h) (h:=h) (T:=40+32*n) rfl hh hh8 Wt o_ o_ rfl rfl rfl Sg (hF.only ⟨rfl,rfl,rfl,rfl,rfl,rfl,trivial⟩) λa w3 QW hF=>?_;have hkey3:=bk QW Sg;have X9:=(QW.block _ hlt1).trans Ro;have SO:Bw w w3:=ab hold hold.size QW;refine Rn.cond _ (hF.g 47) ?_;by_cases Sr:i_ k h n b
  .have e:(decide (bc b 0 4≥((2^h:Nat):Int))||((b.extract 4 8).data.toList !=k.chains.data.toList)||((b.extract (40+32*n) (40+32*n+4)).data.toList !=k.tree.data.toList))=false:=by
    obtain⟨_,h1,h2,h3⟩:=Sr;rw[show 44+32*n=40+32*n+4 from by omega]at h3;have h1':¬bc b 0 4≥((2^h:Nat):Int):=(by rw[Int.natCast_pow];exact Int.not_le.2 h1);rw[decide_eq_false h1',h2,h3];simp
   rw[e];refine Rn.plain rfl (Rn.plain rfl ?_);refine IR (k:=k) (s:=rX k n b) (n:=n) rfl rfl o_ ⟨W8.1,by omega⟩ hkey3 X9 (hF.only ⟨rfl,rfl,rfl,rfl,rfl,rfl,trivial⟩) λa w4 R0 Uk hF=>?_;exact Rn.ends rfl (.inr ⟨_,rfl⟩) (Rn.now ⟨a,_,w.heap.size+1,(rX k n b).cells,119,.bool true,rfl,hF.defers,hF.slot 4 _ rfl,Uk,rfl,hF.slot 5 _ rfl,.inl ⟨Sr,rfl⟩,SO.trans (R0.mono o_)⟩)
  .have e:(decide (bc b 0 4≥((2^h:Nat):Int))||((b.extract 4 8).data.toList !=k.chains.data.toList)||((b.extract (40+32*n) (40+32*n+4)).data.toList !=k.tree.data.toList))=true:=by
    refine Classical.byContradiction λQQ=>Sr ?_;rw[Bool.not_eq_true,Bool.or_eq_false_iff,Bool.or_eq_false_iff,decide_eq_false_iff_not,bne_eq_false_iff_eq,bne_eq_false_iff_eq]at QQ;obtain⟨⟨h1,h2⟩,h3⟩:=QQ;refine⟨QY,?_,h2,?_⟩
    .rw[Int.natCast_pow]at h1;exact Int.not_le.1 h1
    .rw[show 44+32*n=40+32*n+4 from by omega];exact h3
   rw[e];exact K7 7 48 d_ Sr (hF.only ⟨rfl,trivial⟩) X9 SO rfl k_ k_ k_
 .rw[show((b.size:Int) !=((40+32*n+4:Nat):Int)+(h:Int)*32)=true from by simp;omega];exact K7 4 23 d_ (λh=>QY h.1) (hF.only ⟨rfl,trivial⟩) Ro hold rfl k_ k_ k_

def hK(key:ByteArray):Nat:=bV (bc key 0 4)
def wK(key:ByteArray):Nat:=cY (bc key 4 8)
def nK(key:ByteArray):Nat:=dN (bc key 4 8)
def zJ(key:ByteArray):Nat:=dH (bc key 4 8)
def j_(KS:List Int)(key msg sig:ByteArray):ByteArray:=vt KS (rX (gE key) (nK key) sig) (hK key) (wK key) (zJ key) (nK key) (bc sig 0 4).toNat msg
def pC(KS:List Int)(key msg sig:ByteArray)(c:Int):Prop:=
 (¬fF key/\c=9)\/(fF key/\¬i_ (gE key) (hK key) (nK key) sig/\c=10)\/(fF key/\i_ (gE key) (hK key) (nK key) sig/\(j_ KS key msg sig).data.toList≠(key.extract 24 key.size).data.toList/\c=10)\/(fF key/\i_ (gE key) (hK key) (nK key) sig/\(j_ KS key msg sig).data.toList=(key.extract 24 key.size).data.toList/\c=0)
theorem kinds{key:ByteArray}(h:fF key):(hK key=5\/hK key=2)/\((wK key=2/\nK key=133/\zJ key=6)\/(wK key=4/\nK key=67/\zJ key=4)\/(wK key=8/\nK key=34/\zJ key=0)):=by
 obtain⟨_,h1,h2⟩:=h;constructor
 .unfold hK bV at*;split
  .exact .inl rfl
  .split
   .exact .inr rfl
   .rename_i a b;simp[a,b]at h1
 .unfold wK nK zJ cY dN dH at*;by_cases c2:bc key 4 8=2
  .rw[c2];exact .inl d_
  .by_cases c3:bc key 4 8=3
   .rw[c3];exact .inr (.inl d_)
   .by_cases c4:bc key 4 8=4
    .rw[c4];exact .inr (.inr d_)
    .simp[c2,c3,c4]at h2
theorem F0{key:ByteArray}(h:fF key)(hs:i_ (gE key) (hK key) (nK key) sig):Pt (rX (gE key) (nK key) sig) (hK key) (wK key) (zJ key) (nK key) (bc sig 0 4).toNat:=by
 obtain⟨hh,hk⟩:=kinds h;obtain⟨W7,_,_⟩:=h;obtain⟨QY,hq,_,_⟩:=hs;have h0:0<=bc sig 0 4:=(i4 (sig.extract 0 4).data.toList 4 (by simp;omega)).1;have VK:((bc sig 0 4).toNat:Int)=bc sig 0 4:=Int.toNat_of_nonneg h0;exact
  {wid:=by rcases hk with⟨h,_⟩|⟨h,_⟩|⟨h,_⟩<;>rw[h]<;>simp[nz]
   width:=rfl
   shift:=rfl
   shift8:=by omega
   count:=rfl
   one:=by omega
   most:=by rcases hk with⟨h,h2,_⟩|⟨h,h2,_⟩|⟨h,h2,_⟩<;>rw[h,h2]<;>decide
   height:=rfl
   low:=by omega
   qq:=VK.symm
   leaf:=by
    have:((bc sig 0 4).toNat:Int)<((2^hK key:Nat):Int):=(by rw[VK,Int.natCast_pow];exact hq);exact Int.ofNat_lt.1 this
   id:=by show(key.extract 8 24).size<=1000;rw[ByteArray.size_extract];omega
   salt:=by show(sig.extract 8 40).size<=1000;rw[ByteArray.size_extract];omega
   links:=by show nK key*32<=(sig.extract 40 (40+32*nK key)).size;rw[ByteArray.size_extract];omega
   path:=by show(sig.extract (44+32*nK key) sig.size).size=32*hK key;rw[ByteArray.size_extract];omega}
section
variable{s:eD}{rt:ByteArray}{k:eD}{bad ne:Bool}
theorem M2(hC:bad=false->∀w',Bw w w'->Cl kX 71 #[.agg s.cells,.string msg] w' λe Rb=>e=.returned (.string rt)/\Bw w' Rb)(QQ:ne=(rt.data.toList !=k.root.data.toList))(h7:w.heap[b7]?=some (.cells k.key 115))(h9:bad=false->w.heap[b9]?=some (.cells s.cells 119))
 (hF:ay [(1,.string msg),(7,.pk b7 0),(8,.bool (!bad)),(9,.pk b9 0)] 33 [] a)
 (next:∀a w',Bw w w'->ay [(32,.bool (bad||ne))] 33 [] a->Rn kX Goal ((base 36).atR a K) cs w'):
 Rn kX Goal ((base 36).atR a (.code (rD f36 5)::K)) cs w:=by
 refine bY hF ?_
 iterate 3 refine Gx.q ?_
 cases bad with
 |true=>
  iterate 6 refine Gx.s ?_
  refine Gx.q ?_ (v:=.bool true) (y:=λo a w ho z=>fB ho gx);exact Gx.e λa w' hF hb _=>next a w' hb (hF.only ⟨rfl,trivial⟩)
 |false=>
  have h9:=h9 rfl;refine Gx.q ?_ (y:=λo a w ho z=>(kn (ex:=#[]) ho gx (by rw[Array.append_empty];exact bk z.b h9)).1);refine Gx.q ?_;refine Gx.k func71 (λw b _=>(hC rfl) w b) ?_
  iterate 2 refine Gx.q ?_
  refine Gx.q ?_ (v:=.bool ne) (y:=λo a w ho z=>QQ▸kZ ho gx gx);refine Gx.q ?_;exact Gx.e λa w' hF hb _=>next a w' hb (hF.only ⟨rfl,trivial⟩)
end

theorem Nm:f36.body=some (.seq (rG f36 0) (.seq (rG f36 1) (.seq (.seq (rG f36 2) (.cond (.tmp 16) (.seq (rG f36 3) .ret) .skip))
 (.seq (rG f36 4) (.seq (.seq (rD f36 5) (.cond (.tmp 32) (.seq (rG f36 6) .ret) .skip)) (.seq (rG f36 7) .ret)))))):=by kernel_rfl
theorem rW(KS:List Int)(QL:KS.length=64)(key msg sig:ByteArray)(hm:msg.size<=281474976706560)(hs:sig.size<=1125899906842624)(w:World)(hTab:w.rangeAt 0 0 (aC KS))(h0:0<w.heap.size):
 Cl kX 36 #[.string key,.string msg,.string sig] w λe w'=>∃c,e=.returned (.int .i64 c)/\pC KS key msg sig c/\Bw w w':=by
 refine av (N:=33) func36 Nm λcs a hF=>?_
 iterate 2 refine a9 hF λa hF=>?_
 refine bf (R:=λv w'=>((fF key/\v=.tuple #[.agg (gE key).key,.bool true])\/(¬fF key/\v=.tuple #[.agg i8,.bool false]))/\Bw w w') hF func69
  ((vB key w).mono λe w' h=>by
    rcases h with⟨⟨h1,h2⟩|⟨h1,h2⟩,h3⟩
    .exact⟨_,h2,.inl ⟨h1,rfl⟩,h3⟩
    .exact⟨_,h2,.inr ⟨h1,rfl⟩,h3⟩) λv w1 hv a hF=>?_
 obtain⟨hv,QM⟩:=hv;obtain⟨cells,ok,QU,S9⟩:∃cells ok,((¬fF key/\cells=i8/\ok=false)\/(fF key/\cells=(gE key).key/\ok=true))/\v=.tuple #[.agg cells,.bool ok]:=by
  rcases hv with⟨h1,h2⟩|⟨h1,h2⟩
  .exact⟨_,_,.inr ⟨h1,rfl,rfl⟩,h2⟩
  .exact⟨_,_,.inl ⟨h1,rfl,rfl⟩,h2⟩
 subst S9;have XL:cells.size=8/\cells.all (·.oneCell')=true:=by
  rcases QU with⟨_,rfl,_⟩|⟨_,rfl,_⟩
  .exact⟨rfl,by simp[i8,Value.oneCell']⟩
  .exact⟨rfl,by simp[eD.key,Value.oneCell']⟩
 iterate 3 refine a9 hF λa hF=>?_
 refine bl hF (λo ho=>yh ho) λw2 a QN h7 _ hF=>?_;refine aM hF (λo ho=>aJ (cells:=cells) ho (hF.g 7) (hF.g 13) h7 (by rw[XL.1];exact we) (by rw[XL.1];rfl) XL.2) λa hF=>?_;have h7':=setRow_heap w2 w1.heap.size i8 cells 115 (0,0) h7;have RD:Bw w (w2.setRow w1.heap.size cells):=(ab QM QM.size QN).trans (aU _ _ _ QM.size);have XY:=(Array.getElem?_eq_some_iff.1 h7').1;revert h7' RD XY;generalize w2.setRow w1.heap.size cells=w3;intro h7' RD XY;clear h7 QN
 iterate 3 refine a9 hF λa hF=>?_
 refine Rn.plain rfl (Rn.cond _ (hF.g 16) ?_);rcases QU with⟨UT,rfl,rfl⟩|⟨Sr,rfl,rfl⟩
 .refine a9 hF λa hF=>?_;exact aL hF ⟨9,rfl,.inl ⟨UT,rfl⟩,RD⟩
 obtain⟨hh,hk⟩:=kinds Sr;refine af hF (λo ho=>fQ (s:=gE key) ho (hF.g 7) h7' λ_ _=>rfl) λa hF=>?_;refine a9 hF λa hF=>?_;refine bf (R:=λv w'=>((i_ (gE key) (hK key) (nK key) sig/\v=.tuple #[.agg (rX (gE key) (nK key) sig).cells,.bool true])\/(¬i_ (gE key) (hK key) (nK key) sig/\v=.tuple #[.agg f_,.bool false]))/\Bw w3 w') hF func70
  ((E3 (gE key) (hK key) (nK key) rfl o_ rfl o_ sig hs w3).mono λe w' h=>by
    rcases h with⟨⟨h1,h2⟩|⟨h1,h2⟩,h3⟩
    .exact⟨_,h2,.inl ⟨h1,rfl⟩,h3⟩
    .exact⟨_,h2,.inr ⟨h1,rfl⟩,h3⟩) λv w4 hv a hF=>?_
 obtain⟨hv,R0⟩:=hv;obtain⟨cells,bad,QU,S9⟩:∃cells bad,((i_ (gE key) (hK key) (nK key) sig/\cells=(rX (gE key) (nK key) sig).cells/\bad=false)\/(¬i_ (gE key) (hK key) (nK key) sig/\cells=f_/\bad=true))/\v=.tuple #[.agg cells,.bool (!bad)]:=by
  rcases hv with⟨h1,h2⟩|⟨h1,h2⟩
  .exact⟨_,false,.inl ⟨h1,rfl,rfl⟩,h2⟩
  .exact⟨_,true,.inr ⟨h1,rfl,rfl⟩,h2⟩
 subst S9;have VG:cells.size=12/\cells.all (·.oneCell')=true:=by
  rcases QU with⟨_,rfl,_⟩|⟨_,rfl,_⟩
  .exact⟨rfl,by simp[eD.cells,Value.oneCell']⟩
  .exact⟨rfl,by simp[f_,Value.oneCell']⟩
 have h74:=(R0.block _ XY).trans h7';have Ry:Bw w w4:=ab RD RD.size R0
 iterate 3 refine a9 hF λa hF=>?_
 refine bl hF (λo ho=>Eo ho) λw5 a Rz h9 _ hF=>?_;have h75:=bk Rz h74;have hlt74:=(Array.getElem?_eq_some_iff.1 h74).1;refine aM hF (λo ho=>aJ (cells:=cells) ho (hF.g 9) (hF.g 21) h9 (by rw[VG.1];exact Al) (by rw[VG.1];rfl) VG.2) λa hF=>?_;have h9':=setRow_heap w5 w4.heap.size f_ cells 119 (0,0) h9;have h76:=(setRow_other w5 w4.heap.size w1.heap.size cells o_).trans h75;have SD:Bw w (w5.setRow w4.heap.size cells):=(ab Ry Ry.size Rz).trans (aU _ _ _ Ry.size);revert h9' h76 SD;generalize w5.setRow w4.heap.size cells=w6;intro h9' h76 SD;clear h9 Rz h75;refine a9 hF λa hF=>?_;refine Rn.plain rfl (Rn.plain rfl (Rn.plain rfl ?_));refine M2 (s:=rX (gE key) (nK key) sig) (k:=gE key) (rt:=j_ KS key msg sig) (bad:=bad) (b9:=w4.heap.size) (b7:=w1.heap.size) (msg:=msg) (λhq w' Sk=>?_) rfl h76 (λhq=>?_) (hF.only ⟨rfl,rfl,rfl,rfl,trivial⟩) λa w7 SP hF=>?_
 .rcases QU with⟨Tv,_,_⟩|⟨_,_,VJ⟩
  .exact wF KS QL _ _ _ _ _ _ (F0 Sr Tv) msg hm w' (bv h0 (ab SD SD.size Sk) hTab) (Nat.lt_of_lt_of_le h0 (ab SD SD.size Sk).size)
  .rw[VJ]at hq;cases hq
 .rcases QU with⟨_,hc,_⟩|⟨_,_,VJ⟩
  .rw[h9',hc]
  .rw[VJ]at hq;cases hq
 have hB7:Bw w w7:=ab SD SD.size SP;refine Rn.cond _ (hF.g 32) ?_;rcases QU with⟨Tv,_,rfl⟩|⟨hsbad,_,rfl⟩
 .by_cases hr:(j_ KS key msg sig).data.toList=(key.extract 24 key.size).data.toList
  .rw[show(false||((j_ KS key msg sig).data.toList !=(gE key).root.data.toList))=false from by rw[Bool.false_or,bne_eq_false_iff_eq];exact hr];refine a9 hF λa hF=>?_;exact aL hF ⟨0,rfl,.inr (.inr (.inr ⟨Sr,Tv,hr,rfl⟩)),hB7⟩
  .rw[show(false||((j_ KS key msg sig).data.toList !=(gE key).root.data.toList))=true from by rw[Bool.false_or,bne_iff_ne];exact hr];refine a9 hF λa hF=>?_;exact aL hF ⟨10,rfl,.inr (.inr (.inl ⟨Sr,Tv,hr,rfl⟩)),hB7⟩
 .refine a9 hF λa hF=>?_;exact aL hF ⟨10,rfl,.inr (.inl ⟨Sr,hsbad,rfl⟩),hB7⟩

def iX(KS:List Int)(cv:Array Value)(w:World):Prop:=∃hb TJ kb cap:Nat,cv=#[.sk hb 8 TJ,.sk kb 64 cap]/\w.rangeAt hb 0 (aP H0)/\hb<w.heap.size/\w.rangeAt kb 0 (aP KS)/\kb<w.heap.size
def aS(t c:Int)(h wd n sh:Nat):Array Value:=#[.int .i64 t,.int .i64 c,.int .i64 h,.int .i64 wd,.int .i64 n,.int .i64 sh]
theorem oW{L:List Value}(hb:Bw w w')(QK:b<w.heap.size)(h:w.rangeAt b 0 L):w'.rangeAt b 0 L:=λj v hv=>by
 have:=h j v hv;unfold World.cell? at this⊢;rw[hb.block b QK];exact this
theorem iX.mono{cv:Array Value}(h:iX KS cv w)(hb:Bw w w'):iX KS cv w':=by
 obtain⟨QM,c1,kb,c2,rfl,h1,h2,h3,h4⟩:=h;exact⟨QM,c1,kb,c2,rfl,oW hb h2 h1,Nat.lt_of_lt_of_le h2 hb.size,oW hb h4 h3,Nat.lt_of_lt_of_le h4 hb.size⟩
theorem iX.two{cv:Array Value}(h:iX KS cv w):∃c0 c1,cv=#[c0,c1]:=by
 obtain⟨QM,c1,kb,c2,rfl,_⟩:=h;exact⟨_,_,rfl⟩
theorem j0(KS:List Int)(QL:KS.length=64)(QX:ip KS)(cv:Array Value)(s:ByteArray)(w:World)(hC:iX KS cv w)(hs:s.size<=281474976710400):
 Cl kX 12 #[.agg cv,.string s] w λe w'=>e=.returned (.string ⟨(de KS s.data.toList).toArray⟩)/\Bw w w':=by
 obtain⟨hb,TJ,kb,cap,rfl,h1,h2,h3,h4⟩:=hC;exact xL KS s hb TJ kb cap w QL QX h1 h2 h3 h4 hs
section
variable{o:Oper}{y:Operand}
theorem cc{cv:Array Value}(VW:∃c0 c1,cv=#[c0,c1])(QH:o.op=.load 26 x)(hx:ev x=.pk b 0)(h:w.heap[b]?=some (.cells cv 26)):(execOp ev o).run prog w=.ok (.value (.agg cv)) w:=by
 obtain⟨c0,c1,rfl⟩:=VW;have h1:(isAgg 26).run prog w=.ok true w:=by kernel_rfl
 have hc:=ak h;simp[execOp,QH,hx,Instr.loadAt,loadVar,h1,loadCells,loadCellsFrom,Addr.add,hc,go_sem]
theorem iE{t:Int}{hh:Nat}(QH:o.op=.load 29 x)(hx:ev x=.pk b 0)(h:w.heap[b]?=some (.cells (aS t c hh wd n sh) 29)):(execOp ev o).run prog w=.ok (.value (.agg (aS t c hh wd n sh))) w:=by
 have h1:(isAgg 29).run prog w=.ok true w:=by kernel_rfl
 have hc:=ak h;simp[execOp,QH,hx,Instr.loadAt,loadVar,h1,loadCells,loadCellsFrom,Addr.add,hc,aS,go_sem]
theorem kv(j:Nat)(hj:j<6)(QH:o.op=.fieldAddr 29 x j)(hx:ev x=.pk b 0):(execOp ev o).run prog w=.ok (.value (.pk b j)) w:=by
 have e:execOp ev o=(do pure (.value (←Instr.fieldAt 29 (.pk b 0) j))):=by simp only[execOp,QH,hx]
 have h2:(do pure (.value (←Instr.fieldAt 29 (.pk b 0) j)):Sem Next).run prog w=.ok (.value (.pk b j)) w:=by
  rcases(by omega:j=0\/j=1\/j=2\/j=3\/j=4\/j=5)with rfl|rfl|rfl|rfl|rfl|rfl<;>kernel_rfl
 rw[e,h2]
theorem pK{u:TypeId}(QH:o.op=.binOp .quo 3 x y u)(hx:ev x=.int .i64 m)(hy:ev y=.int .i64 n)(hn:0<n)(hm:m<9223372036854775808):(execOp ev o).run prog w=.ok (.value (.int .i64 ((m/n:Nat):Int))) w:=by
 obtain⟨q,hq⟩:∃q,q=m/n:=⟨_,rfl⟩;have hle:q<=m:=by rw[hq];exact Nat.div_le_self _ _
 have e:IntKind.i64.wrap (q:Int)=(q:Int):=by rw[IntKind.wrap_i64];omega
 have e2:(m:Int).tdiv (n:Int)=(q:Int):=by rw[Int.tdiv_eq_ediv_of_nonneg o_,hq,Int.natCast_ediv]
 have hz:¬n=0:=by omega
 rw[←hq];simp[execOp,QH,hx,hy,go_sem,e2,e,hz]
theorem pJ{u:TypeId}(QH:o.op=.binOp .rem 3 x y u)(hx:ev x=.int .i64 m)(hy:ev y=.int .i64 n)(hn:0<n):(execOp ev o).run prog w=.ok (.value (.int .i64 ((m%n:Nat):Int))) w:=by
 have e2:(m:Int).tmod (n:Int)=((m%n:Nat):Int):=by rw[Int.tmod_eq_emod_of_nonneg o_,Int.natCast_emod]
 have hz:¬n=0:=by omega
 simp[execOp,QH,hx,hy,go_sem,e2,hz]
end

theorem vk(KS:List Int)(a b c d e:ByteArray):iD KS [a,b,c,d,e]=⟨(de KS (a++b++c++d++e).data.toList).toArray⟩:=by simp[iD,List.flatMap_cons]
theorem vj(KS:List Int)(a b c d:ByteArray):iD KS [a,b,c,d]=⟨(de KS (a++b++c++d).data.toList).toArray⟩:=by simp[iD,List.flatMap_cons]
section
variable{W:World}{Q:Act->WP}{M:List (Nat×WP)}{xs:Array Operand}{ats:Array TypeId}
theorem Gx.U(v k:Nat)(next:Gx kX ops W N n df Q (m+1) ((d,.string (ob v k))::F) M)(h:Is ops m d (.call {callee:=.value (.func 29),args:=xs,argTypes:=ats}) gd:=by rfl)(hw:gV ops F gd=some true:=by rfl)(RQ:rU ops (kD ops n m) gd=true:=by kernel_rfl)(ha:wu F xs.toList=some [.int .i64 v,.int .i64 k]:=by rfl)(hk:xs.toList.all (vL (kD ops n m))=true:=by kernel_rfl)(hn:k<=8:=by decide)(hv:v<9223372036854775808:=by omega):Gx kX ops W N n df Q m F M:=
 Gx.k (v:=.string (ob v k)) func29 (λw _ _=>fD v k w hn hv) next h hw RQ ha hk
theorem G8{cv:Array Value}{s:ByteArray}(QL:KS.length=64)(QX:ip KS)(hC:iX KS cv W)(next:Gx kX ops W N n df Q (m+1) ((d,.string ⟨(de KS s.data.toList).toArray⟩)::F) M)(h:Is ops m d (.call {callee:=.value (.func 12),args:=xs,argTypes:=ats}) gd:=by rfl)(hw:gV ops F gd=some true:=by rfl)(RQ:rU ops (kD ops n m) gd=true:=by kernel_rfl)(ha:wu F xs.toList=some [.agg cv,.string s]:=by rfl)(hk:xs.toList.all (vL (kD ops n m))=true:=by kernel_rfl)(hs:s.size<=281474976710400:=by first|omega|(simp only[ByteArray.size_append,bR];omega)):Gx kX ops W N n df Q m F M:=
 Gx.k func12 (λw h _=>j0 KS QL QX cv s w (hC.mono h) hs) next h hw RQ ha hk
end
theorem Nj:f31.body=some (.seq (rG f31 0) (.seq (rD f31 1) .ret)):=by kernel_rfl
theorem mH(QL:KS.length=64)(QX:ip KS){cv:Array Value}(id s3 s4:ByteArray)(q:Nat)(hq:q<9223372036854775808)(hlen:id.size+6+s3.size+s4.size<=281474976710400)(w:World)(hC:iX KS cv w):
 Cl kX 31 #[.agg cv,.string id,.int .i64 q,.string s3,.string s4] w λe w'=>e=.returned (.string (iD KS [id,ob q 4,ob 33153 2,s3,s4]))/\Bw w w':=by
 rw[vk];refine av (N:=23) func31 Nj λcs a hF=>?_;refine cW hF λw1 a hb hx _ hF=>?_;have hC:=hC.mono hb;refine a9 hF λa hF=>?_
 iterate 2 refine Rn.plain rfl ?_
 refine bY hF ?_
 iterate 3 refine Gx.q ?_
 refine Gx.U q 4 ?_;refine Gx.q ?_;refine Gx.U 33153 2 ?_
 iterate 5 refine Gx.q ?_
 refine G8 QL QX hC ?_;refine Gx.q ?_;exact Gx.e λa w' hF h2 _=>aL hF ⟨rfl,ab hb hb.size h2⟩
theorem Ng:f65.body=some (.seq (rG f65 0) (.seq (rD f65 1) .ret)):=by kernel_rfl
theorem jN(QL:KS.length=64)(QX:ip KS){cv:Array Value}(id s3 s4:ByteArray)(q:Nat)(hq:q<9223372036854775808)(hlen:id.size+6+s3.size+s4.size<=281474976710400)(w:World)(hC:iX KS cv w):
 Cl kX 65 #[.agg cv,.string id,.int .i64 q,.string s3,.string s4] w λe w'=>e=.returned (.string (iD KS [id,ob q 4,ob 33667 2,s3,s4]))/\Bw w w':=by
 rw[vk];refine av (N:=23) func65 Ng λcs a hF=>?_;refine cW hF λw1 a hb hx _ hF=>?_;have hC:=hC.mono hb;refine a9 hF λa hF=>?_
 iterate 2 refine Rn.plain rfl ?_
 refine bY hF ?_
 iterate 3 refine Gx.q ?_
 refine Gx.U q 4 ?_;refine Gx.q ?_;refine Gx.U 33667 2 ?_
 iterate 5 refine Gx.q ?_
 refine G8 QL QX hC ?_;refine Gx.q ?_;exact Gx.e λa w' hF h2 _=>aL hF ⟨rfl,ab hb hb.size h2⟩

theorem Nh:f64.body=some (.seq (rG f64 0) (.seq (rD f64 1) (.seq (rD f64 2) .ret))):=by kernel_rfl
theorem vV(QL:KS.length=64)(QX:ip KS){cv:Array Value}(id en:ByteArray)(q h wd n sh:Nat)(t c:Int)(hh:h<=8)(hq:q<4294967296)(hlen:id.size+100+en.size<=140737488355328)(w:World)(hC:iX KS cv w):
 Cl kX 64 #[.agg cv,.agg (aS t c h wd n sh),.string id,.int .i64 q,.string en] w λe w'=>e=.returned (.string (iD KS [id,ob (2^h+q) 4,ob 33410 2,iD KS [id,ob q 4,ob 32896 2,en]]))/\Bw w w':=by
 obtain⟨H,hH⟩:∃H,H=2^h:=⟨_,rfl⟩;have Wt:H<=256:=hH▸Nat.le_trans (Nat.pow_le_pow_right d_ hh) d_;have hp:(1:Int)*2^h=(H:Int):=by rw[Int.one_mul,hH,Int.natCast_pow];rfl
 rw[←hH,vj KS id (ob (H+q) 4)];have hz:=eH KS [id,ob q 4,ob 32896 2,en];rw[vj]at hz⊢;refine av (N:=36) func64 Nh λcs a hF=>?_;refine cW hF λw1 a QM h5 _ hF=>?_;refine cW hF λw2 a QN h6 _ hF=>?_;have h5:=bk QN h5;have hb:=ab QM QM.size QN;have TN:=hC.mono hb;refine a9 hF λa hF=>?_
 iterate 2 refine Rn.plain rfl ?_
 refine bY hF ?_
 iterate 3 refine Gx.q ?_
 refine Gx.U q 4 ?_;refine Gx.q ?_;refine Gx.U 32896 2 ?_
 iterate 3 refine Gx.q ?_
 refine G8 QL QX TN ?_;refine Gx.q ?_;refine Gx.e λa w3 hF QW _=>?_;have h5:=bk QW h5;have h6:=bk QW h6;have hb:=ab hb hb.size QW;have SG:=hC.mono hb;refine Rn.plain rfl (bY hF ?_)
 iterate 4 refine Gx.q ?_
 refine Gx.q ?_ (y:=λo a w ho z=>(gk (m:=1) (k:=h) ho rfl gx o_ (by rw[hp];omega)).trans (by rw[hp]));refine Gx.q ?_;refine Gx.q ?_ (y:=λo a w ho z=>aI ho gx gx o_);refine Gx.U (H+q) 4 ?_;refine Gx.q ?_;refine Gx.U 33410 2 ?_
 iterate 3 refine Gx.q ?_
 refine G8 QL QX SG ?_;refine Gx.q ?_;exact Gx.e λa w4 hF R0 _=>aL hF ⟨rfl,ab hb hb.size R0⟩

def yn(f:Func):Code:=.seq (.seq (rG f 2) (.cond (.tmp 19) .skip (.exit 0))) (.seq (.block 1 (rD f 4)) (rG f 3))
theorem Ni:f32.body=some (.seq (rG f32 0) (.seq (.seq (rG f32 1) (.block 0 (.loop (yn f32)))) (.seq (rG f32 5) .ret))):=by kernel_rfl
def xi(KS:List Int)(id:ByteArray)(q i:Nat):Nat->Nat->ByteArray->ByteArray
 |0,_,y=>y
 |n+1,j,y=>xi KS id q i n (j+1) ⟨(de KS (id++ob q 4++ob i 2++ob j 1++y).data.toList).toArray⟩
theorem I7(QL:KS.length=64)(QX:ip KS){cv:Array Value}{id:ByteArray}{q tp:Nat}(hq:q<4294967296)(hi:i<65536)(htp:tp<65536)(RR:id.size<=1000)(hC:iX KS cv w0)(Rx:w0.heap[b7]?=some (.cells cv 26)){Y:ByteArray}
 (next:∀a w,Bw w0 w->ay [(6,.string Y)] 37 [] a->Rn kX Goal (fr.atR a K) cs w):
 ∀(m j:Nat) (y:ByteArray) (a:Act) (w:World),tp- j=m->j<=65535->y.size=32->xi KS id q i m j y=Y->Bw w0 w->ay [(1,.string id),(2,.int .i64 q),(3,.int .i64 i),(5,.int .i64 tp),(6,.string y),(7,.pk b7 0),(15,.int .i64 j)] 37 [] a->
  Rn kX Goal (fr.atR a (.code (yn f32):: .inLoop (yn f32):: .inBlock 0::K)) cs w:=by
 intro m;induction m with
 |zero=>
  intro j y a w hm hj hy hY hB hF
  iterate 3 refine a9 hF λa hF=>?_
  refine Rn.plain rfl (Rn.cond _ (hF.g 19) ?_);rw[decide_eq_false o_];have hY:y=Y:=hY;exact Rn.plain rfl (next a w hB (hF.only ⟨by rw[←hY];rfl,trivial⟩))
 |succ m ih=>
  intro j y a w hm hj hy hY hB hF
  iterate 3 refine a9 hF λa hF=>?_
  refine Rn.plain rfl (Rn.cond _ (hF.g 19) ?_);rw[decide_eq_true o_];refine Rn.plain rfl (Rn.plain rfl (Rn.plain rfl ?_));have Rx:=bk hB Rx;have hC:=hC.mono hB;refine gI 14 hF ?_
  iterate 3 refine Gx.q ?_
  refine Gx.U q 4 ?_
  iterate 2 refine Gx.q ?_
  refine Gx.U i 2 ?_
  iterate 2 refine Gx.q ?_
  refine Gx.U j 1 ?_
  iterate 3 refine Gx.q ?_
  refine G8 QL QX hC ?_;refine Gx.e λa w2 hF QN _ rest hgo=>a9 hF λa hF=>hgo _ _ ?_
  iterate 3 refine a9 hF λa hF=>?_
  refine Rn.plain rfl (Rn.plain rfl (ih (j+1) _ a w2 o_ o_ (cU KS _) hY (ab hB hB.size QN) (hF.only ⟨rfl,rfl,rfl,rfl,rfl,rfl,?_,trivial⟩)));rw[Int.natCast_add];rfl
theorem xX(QL:KS.length=64)(QX:ip KS){cv:Array Value}(id y:ByteArray)(q i j tp:Nat)(hq:q<4294967296)(hi:i<65536)(hj:j<65536)(htp:tp<65536)(RR:id.size<=1000)(hy:y.size=32)(w:World)(hC:iX KS cv w):
 Cl kX 32 #[.agg cv,.string id,.int .i64 q,.int .i64 i,.int .i64 j,.int .i64 tp,.string y] w λe w'=>e=.returned (.string (xi KS id q i (tp- j) j y))/\Bw w w':=by
 refine av (N:=37) func32 Ni λcs a hF=>?_;refine cW hF λw1 a QM h7 _ hF=>?_
 iterate 3 refine a9 hF λa hF=>?_
 refine Rn.plain rfl (Rn.plain rfl (Rn.plain rfl ?_));refine I7 (Y:=xi KS id q i (tp- j) j y) QL QX hq hi htp RR (hC.mono QM) h7 (λa w2 hB hF=>?_) (tp- j) j y a w1 rfl o_ hy rfl (Below.refl _ _) (hF.only ⟨rfl,rfl,rfl,rfl,rfl,rfl,rfl,trivial⟩)
 iterate 2 refine a9 hF λa hF=>?_
 exact aL hF ⟨rfl,ab QM QM.size hB⟩

theorem LZ{b:ByteArray}(U9:H2=2^wd)(hH0:0<H2)(hw:nz wd)(hi:i/(8/wd)<b.size)(hi2:i<1000000)(SJ:0<8/wd)(Sv:wd<=8)(h2w:H2<=256)(h2t:cj wd=H2- 1)(hmul:i%(8/wd)*wd<=8- wd)(hx:(b.data.toList.getD (i/(8/wd)) 0).toNat<256)
 (hF:ay [(0,.string b),(1,.int .i64 i),(2,.int .i64 wd),(7,.int .i64 ((8/wd:Nat):Int))] 29 [] a)
 (next:∀a w',(Bw w w'/\ay [(6,.int .i64 (cy b.data.toList wd i)),(0,.string b),(1,.int .i64 i),(2,.int .i64 wd),(7,.int .i64 ((8/wd:Nat):Int))] 29 [] a)->Rn kX Goal (fr.atR a K) cs w'):
 Rn kX Goal (fr.atR a (.code (rD f66 2)::K)) cs w:=by
 have hp:(1:Int)*2^wd=(H2:Int):=by rw[Int.one_mul,U9,Int.natCast_pow];rfl
 refine bY hF ?_
 iterate 3 refine Gx.q ?_
 refine Gx.q ?_ (y:=λo a w ho z=>pK ho gx gx SJ o_);refine Gx.q ?_ (y:=λo a w ho z=>(qO ho gx gx hi).trans (by rw[AD b _ hi]));refine Gx.q ?_ (y:=λo a w ho z=>li ho gx);refine Gx.q ?_;refine Gx.q ?_ (y:=λo a w ho z=>ix (m:=8) ho rfl gx Sv d_)
 iterate 2 refine Gx.q ?_
 refine Gx.q ?_ (y:=λo a w ho z=>pJ ho gx gx SJ);refine Gx.q ?_;refine Gx.q ?_ (y:=λo a w ho z=>iy ho gx gx o_);refine Gx.q ?_ (y:=λo a w ho z=>ix ho gx gx hmul o_);refine Gx.q ?_ (v:=.int .i64 (((b.data.toList.getD (i/(8/wd)) 0).toNat/2^(8- wd- i%(8/wd)*wd):Nat):Int)) (y:=λo a w ho z=>(qM (k:=8- wd- i%(8/wd)*wd) ho gx gx o_).trans (by rw[Int.natCast_ediv,Int.natCast_pow];rfl));refine Gx.q ?_;refine Gx.q ?_ (y:=λo a w ho z=>(gk (m:=1) (k:=wd) ho rfl gx o_ (by rw[hp];omega)).trans (by rw[hp]));refine Gx.q ?_ (v:=.int .i64 (cj wd)) (y:=λo a w ho z=>h2t▸ix (n:=1) ho gx rfl hH0 o_);refine Gx.q ?_ (v:=.int .i64 (cy b.data.toList wd i)) (y:=λo a w ho z=>(dD ho gx gx).trans (by rw[AH _ wd (Nat.lt_of_le_of_lt (Nat.div_le_self _ _) o_) hw];rfl));refine Gx.q ?_;exact Gx.e λa w' hF hb _=>next a w' ⟨hb,(hF.only ⟨rfl,rfl,rfl,rfl,rfl,trivial⟩)⟩
theorem Na:f66.body=some (.seq (rG f66 0) (.seq (rG f66 1) (.seq (rD f66 2) .ret))):=by kernel_rfl
theorem td(b:ByteArray)(i wd:Nat)(hw:nz wd)(hi:i/(8/wd)<b.size)(hi2:i<1000000)(w:World):
 Cl kX 66 #[.string b,.int .i64 i,.int .i64 wd] w λe w'=>e=.returned (.int .i64 (cy b.data.toList wd i))/\Bw w w':=by
 have SJ:0<8/wd:=by rcases hw with rfl|rfl|rfl<;>decide
 have hmul:i%(8/wd)*wd<=8- wd:=by rcases hw with rfl|rfl|rfl<;>simp<;>omega
 refine av (N:=29) func66 Na λcs a hF=>?_
 iterate 2 refine a9 hF λa hF=>?_
 refine af hF (λo ho=>pK (m:=8) ho rfl (hF.g 8) (by rcases hw with rfl|rfl|rfl<;>decide) d_) λa hF=>?_;refine a9 hF λa hF=>?_;refine Rn.plain rfl (Rn.plain rfl ?_);refine LZ (H2:=2^wd) rfl (Nat.two_pow_pos wd) hw hi hi2 SJ (by rcases hw with rfl|rfl|rfl<;>decide) (by rcases hw with rfl|rfl|rfl<;>decide) rfl hmul (b.data.toList.getD (i/(8/wd)) 0).toNat_lt (hF.only ⟨rfl,rfl,rfl,rfl,trivial⟩) λa w' ⟨hb,hF⟩=>?_;exact aL hF ⟨rfl,hb⟩

def Cb(f:Func):Code:=.seq (.seq (rG f 4) (.cond (.tmp 21) .skip (.exit 0))) (.seq (.block 1 (.seq (rG f 6) (rG f 7))) (rG f 5))
def LW(f:Func):Code:=.seq (.seq (rG f 11) (.cond (.tmp 44) .skip (.exit 2))) (.seq (.block 3 (.seq (rG f 13) (rG f 14))) (rG f 12))
theorem Nk:f30.body=some (.seq (rG f30 0) (.seq (rG f30 1) (.seq (rG f30 2) (.seq (.seq (rG f30 3) (.block 0 (.loop (Cb f30))))
 (.seq (rG f30 8) (.seq (rG f30 9) (.seq (.seq (rG f30 10) (.block 2 (.loop (LW f30)))) (.seq (rG f30 15) .ret)))))))):=by kernel_rfl
section
variable{Q:ByteArray}{t:Int}{h:Nat}
theorem Ca(hw:nz wd)(hQ:Q.size=32)(next:∀a w,Bw w0 w->ay [(1,.string Q),(2,.pk N 0),(6,.int .i64 (eF Q.data.toList wd (256/wd)))] 57 [] a->Rn kX Goal (fr.atR a K) cs w)(RL:w0.heap[N]?=some (.cells (aS t c h wd n sh) 29)):
 ∀(m i:Nat) (a:Act) (w:World),256/wd- i=m->i<=256/wd->Bw w0 w->ay [(1,.string Q),(2,.pk N 0),(5,.int .i64 (cj wd)),(6,.int .i64 (eF Q.data.toList wd i)),(7,.int .i64 i)] 57 [] a->
  Rn kX Goal (fr.atR a (.code (Cb f30):: .inLoop (Cb f30):: .inBlock 0::K)) cs w:=by
 have hNlt:=(Array.getElem?_eq_some_iff.1 RL).1;have hwd0:0<wd:=by rcases hw with rfl|rfl|rfl<;>decide
 have WF:=lR hw;have h128:256/wd<=128:=by rcases hw with rfl|rfl|rfl<;>decide
 have Xf:∀(i:Nat) (a:Act) (w:World) (R:List Nat),i<=256/wd->Bw w0 w->ay [(1,.string Q),(2,.pk N 0),(5,.int .i64 (cj wd)),(6,.int .i64 (eF Q.data.toList wd i)),(7,.int .i64 i)] 57 [] a->
  (∀a,ay [(21,.bool (decide ((i:Int)<((256/wd:Nat):Int)))),(1,.string Q),(2,.pk N 0),(5,.int .i64 (cj wd)),(6,.int .i64 (eF Q.data.toList wd i)),(7,.int .i64 i)] 57 [] a->Rn kX Goal (fr.atR a (.code (.cond (.tmp 21) .skip (.exit 0)):: .code (.seq (.block 1 (.seq (rG f30 6) (rG f30 7))) (rG f30 5)):: .inLoop (Cb f30):: .inBlock 0::K)) cs w)->
  Rn kX Goal (fr.atR a (.code (Cb f30):: .inLoop (Cb f30):: .inBlock 0::K)) cs w:=by
  intro i a w _ hi hB hF Rl;have VV:=(hB.block N hNlt).trans RL
  iterate 3 refine a9 hF λa hF=>?_
  refine af hF (λo ho=>pK (m:=256) ho rfl (hF.g 19) hwd0 d_) λa hF=>?_;refine a9 hF λa hF=>?_;exact Rn.plain rfl (Rl a (hF.only ⟨rfl,rfl,rfl,rfl,rfl,rfl,trivial⟩))
 intro m;induction m with
 |zero=>
  intro i a w hm hi hB hF;have hi2:i=256/wd:=by omega
  refine Xf i a w [] hi hB hF λa hF=>?_;refine Rn.cond _ (hF.g 21) ?_;rw[decide_eq_false o_];exact Rn.plain rfl (next a w hB (hF.only ⟨rfl,rfl,by rw[←hi2];rfl,trivial⟩))
 |succ m ih=>
  intro i a w hm hi hB hF;have QK:i<256/wd:=by omega
  refine Xf i a w [] hi hB hF λa hF=>?_;refine Rn.cond _ (hF.g 21) ?_;rw[decide_eq_true o_];have VV:=(hB.block N hNlt).trans RL;have hS:=mj Q.data.toList hw i;have hdt:=kL Q.data.toList wd i;have hdiv:i/(8/wd)<Q.size:=by rw[hQ];rcases hw with rfl|rfl|rfl<;>simp at QK⊢<;>omega
  refine a9 hF λa hF=>?_
  iterate 3 refine a9 hF λa hF=>?_
  refine bH hF func66 ((td Q i wd hw hdiv o_ w)) λw2 QN a hF=>?_
  iterate 6 refine a9 hF λa hF=>?_
  rw[show(eF Q.data.toList wd i:Int)+(cj wd:Int)-(cy Q.data.toList wd i:Int)=((eF Q.data.toList wd (i+1):Nat):Int)from by simp only[eF];omega]at hF
  iterate 4 refine a9 hF λa hF=>?_
  refine Rn.plain rfl (Rn.plain rfl (ih (i+1) a w2 o_ o_ (ab hB hB.size QN) (hF.only ⟨rfl,rfl,rfl,rfl,?_,trivial⟩)));rw[Int.natCast_add];rfl
theorem C9{al:ByteArray}(hw:nz wd)(hal:al.size=34)(hn:n<=34*(8/wd))
 (next:∀a w v,Bw w0 w->w.ownsRow w0.heap.size 3 1 v n (j5 al wd n)->ay [(10,v)] 57 [] a->Rn kX Goal (fr.atR a K) cs w):
 ∀(m i:Nat) (v:Value) (a:Act) (w:World),n- i=m->i<=n->Bw w0 w->w.heap[N]?=some (.cells (aS t c h wd n sh) 29)->w.ownsRow w0.heap.size 3 1 v i (j5 al wd i)->ay [(2,.pk N 0),(9,.string al),(10,v),(11,.int .i64 i)] 57 [] a->
  Rn kX Goal (fr.atR a (.code (LW f30):: .inLoop (LW f30):: .inBlock 2::K)) cs w:=by
 have SJ:8/wd<=4:=by rcases hw with rfl|rfl|rfl<;>decide
 have Xb:n<=136:=Nat.le_trans hn (Nat.le_trans (Nat.mul_le_mul_left 34 SJ) d_);intro m;induction m with
 |zero=>
  intro i v a w hm hi hB hk Ra hF;have SS:i=n:=by omega
  subst SS
  iterate 4 refine a9 hF λa hF=>?_
  refine Rn.plain rfl (Rn.cond _ (hF.g 44) ?_);rw[decide_eq_false o_];exact Rn.plain rfl (next a w v hB Ra (hF.only ⟨rfl,trivial⟩))
 |succ m ih=>
  intro i v a w hm hi hB hk Ra hF;have SS:i<n:=by omega
  have hdiv:i/(8/wd)<al.size:=by
   rw[hal];rcases hw with rfl|rfl|rfl<;>simp at hn⊢<;>omega
  iterate 4 refine a9 hF λa hF=>?_
  refine Rn.plain rfl (Rn.cond _ (hF.g 44) ?_);rw[decide_eq_true o_];refine a9 hF λa hF=>?_
  iterate 3 refine a9 hF λa hF=>?_
  refine bH hF func66 ((td al i wd hw hdiv o_ w)) λw2 QN a hF=>?_;have UN:=(QN.block N (Array.getElem?_eq_some_iff.1 hk).1).trans hk;have SN:=fC Ra λk hk=>QN.block k (Ra.lt k hk).2;have RD:Bw w0 w2:=ab hB hB.size QN;clear hk Ra hB QN
  iterate 3 refine a9 hF λa hF=>?_
  refine af hF (λo ho=>DW ho (hF.g 53)) λa hF=>?_;have QW:=aD w2 (.cells #[.int .i64 (cy al.data.toList wd i)] 3);have SC:=aK w2 (.cells #[.int .i64 (cy al.data.toList wd i)] 3);have hk3:=(QW.block N (Array.getElem?_eq_some_iff.1 UN).1).trans UN;have Sz:(w2.alloc (.cells #[.int .i64 (cy al.data.toList wd i)] 3)).ownsRow w0.heap.size 3 1 v i (j5 al wd i):=fC SN λk hk=>QW.block k (SN.lt k hk).2;have RF:Bw w0 (w2.alloc (.cells #[.int .i64 (cy al.data.toList wd i)] 3)):=ab RD RD.size QW;obtain⟨ti,hti,hz,QY,Wm⟩:=v_;refine dF (d:=55) (R:=λv' w3=>w3.ownsRow w0.heap.size 3 1 v' (i+1) (j5 al wd i++[.int .i64 (cy al.data.toList wd i)])/\w3.heap[N]?=w2.heap[N]?/\Bw w0 w3) hF (λo e2 e=>?_) λv' w3 ⟨VM,hkk,Ry⟩ a hF=>?_
  .obtain⟨v',w3,Q_,VM,Ud,_⟩:=run_append_own (P:=prog) {w2.alloc (.cells #[.int .i64 (cy al.data.toList wd i)] 3)with drawn:=e} w0.heap.size 24 o.type 3 ti (.int .i64 0) 1 8 k_ hti hz QY Wm rfl d_ v i _ Sz ⟨w2.heap.size,0,none⟩ 1 1 [.int .i64 (cy al.data.toList wd i)] rfl
    (λj u hj=>by
      have hj0:j=0:=(by have:=(List.getElem?_eq_some_iff.1 hj).1;simp at this;omega);subst hj0;cases hj;rw[fO];exact(ak SC 0).trans rfl) (λu hu=>by simp at hu;subst hu;rfl) (by simp only[maxLen];omega) o_ RF.size
   have q2:=je Sz hk3 (by intro cur q;cases q);exact⟨v',w3,tO e2 (hF.g 52) (hF.g 54) Q_,VM,((Ud.block N (Array.getElem?_eq_some_iff.1 hk3).1 q2).trans hk3).trans UN.symm,oO (w:={w2.alloc (.cells #[.int .i64 (cy al.data.toList wd i)] 3)with drawn:=e}) ⟨RF.os,RF.tape,RF.output,RF.size,RF.block⟩ Ud (λk hk=>(Sz.lt k hk).1) RF.size⟩
  have hk4:=hkk.trans UN
  iterate 4 refine a9 hF λa hF=>?_
  refine Rn.plain rfl (Rn.plain rfl (ih (i+1) v' a w3 o_ o_ Ry hk4 ?_ (hF.only ⟨rfl,rfl,rfl,?_,trivial⟩)))
  .have e:j5 al wd (i+1)=j5 al wd i++[.int .i64 (cy al.data.toList wd i)]:=(by simp[j5,List.range_succ]);rw[e];exact VM
  .rw[Int.natCast_add];rfl
end
theorem Av(Q:ByteArray)(t c:Int)(h wd n sh:Nat)(w:World)(hw:nz wd)(hsh:sh<=8)(SA:1<=n)(RV:n<=34*(8/wd))(hQ:Q.size=32):
 Cl kX 30 #[.agg (aS t c h wd n sh),.string Q] w λe w'=>∃v,e=.returned v/\im n (λc=>cy (ik Q.data.toList wd sh) wd c) v w'/\Bw w w':=by
 refine av (N:=57) func30 Nk λcs a hF=>?_;refine cW hF λw1 a QM RL _ hF=>?_;have h2w:2^wd<=256:=by rcases hw with rfl|rfl|rfl<;>decide
 have hwd8:wd<=8:=by rcases hw with rfl|rfl|rfl<;>decide
 obtain⟨H2,U9⟩:∃H2,H2=2^wd:=⟨_,rfl⟩;have hp:(1:Int)*2^wd=(H2:Int):=by rw[Int.one_mul,U9,Int.natCast_pow];rfl
 have h2t:cj wd=H2- 1:=by rw[U9];rfl
 have hH0:0<H2:=by rw[U9];exact Nat.two_pow_pos wd
 rw[←U9]at h2w
 iterate 3 refine a9 hF λa hF=>?_
 refine af hF (λo ho=>gk (m:=1) (k:=wd) ho rfl (hF.g 14) o_ (by rw[hp];omega)) λa hF=>?_;rw[hp]at hF;refine a9 hF λa hF=>?_;rw[show(H2:Int)- 1=(cj wd:Int)from by omega]at hF
 iterate 3 refine a9 hF λa hF=>?_
 refine Rn.plain rfl (Rn.plain rfl (Rn.plain rfl ?_));refine Ca (w0:=w1) (N:=w.heap.size) hw hQ (λa w2 RD hF=>?_) RL (256/wd) 0 a w1 rfl (Nat.zero_le _) (Below.refl _ _) (hF.only ⟨rfl,rfl,rfl,rfl,rfl,trivial⟩);have VU:=bk RD RL;have hS:=mj Q.data.toList hw (256/wd);have h128:256/wd<=128:=by rcases hw with rfl|rfl|rfl<;>decide
 have h2s:2^sh<=256:=Nat.le_trans (Nat.pow_le_pow_right d_ hsh) d_;have hmul:eF Q.data.toList wd (256/wd)*2^sh<=32640*256:=Nat.mul_le_mul o_ h2s;have U6:(eF Q.data.toList wd (256/wd):Int)*2^sh=((eF Q.data.toList wd (256/wd)*2^sh:Nat):Int):=by rw[Int.natCast_mul,Int.natCast_pow];rfl
 iterate 4 refine a9 hF λa hF=>?_
 refine af hF (λo ho=>gk (k:=sh) ho (hF.g 35) (hF.g 37) o_ (by rw[U6];omega)) λa hF=>?_;rw[U6]at hF;refine bf hF func29 (R:=λv w'=>v=.string (ob (eF Q.data.toList wd (256/wd)*2^sh) 2)/\Bw w2 w') ((fD _ 2 w2 d_ o_).mono λe w' h=>⟨_,h.1,rfl,h.2⟩) λv w3 hv a hF=>?_;obtain⟨rfl,QW⟩:=hv;refine af hF (λo ho=>cn ho (hF.g 34) (hF.g 39) (by rw[hQ,bR];decide)) λa hF=>?_;refine a9 hF λa hF=>?_;have RF:Bw w w3:=ab (ab QM QM.size RD) (ab QM QM.size RD).size QW;have hkd3:=bk QW VU
 iterate 2 refine a9 hF λa hF=>?_
 refine Rn.plain rfl (Rn.plain rfl (Rn.plain rfl ?_));have QY:(Q++ob (eF Q.data.toList wd (256/wd)*2^sh) 2).size=34:=by rw[ByteArray.size_append,hQ,bR]
 have RP:(Q++ob (eF Q.data.toList wd (256/wd)*2^sh) 2).data.toList=ik Q.data.toList wd sh:=by simp[ik,ob]
 refine C9 (w0:=w) (N:=w.heap.size) (al:=Q++ob (eF Q.data.toList wd (256/wd)*2^sh) 2) hw QY RV (λa w4 v Ry Ra hF=>?_) n 0 (.slice none 0 0) a w3 rfl (Nat.zero_le _) RF hkd3 (World.ownsRow_nil _ _ _ _) (hF.only ⟨rfl,rfl,rfl,rfl,trivial⟩)
 iterate 2 refine a9 hF λa hF=>?_
 refine Rn.plain rfl (Rn.ends rfl (.inr ⟨_,rfl⟩) (Rn.now ⟨a,_,v,rfl,hF.defers,hF.slot 4 _ rfl,v,rfl,?_,Ry⟩));rcases Ra.2 with⟨_,h0⟩|⟨g,cap,cur,rfl,_,hg,hnc,_,TL,TY⟩
 .omega
 refine⟨g,cap,rfl,(Array.getElem?_eq_some_iff.1 hg).1,λc hc=>?_⟩;rw[ak hg];have h1:(cur.toList.take (n*1))[c]?=(j5 (Q++ob (eF Q.data.toList wd (256/wd)*2^sh) 2) wd n)[c]?:=by rw[TY]
 rw[List.getElem?_take_of_lt o_]at h1;rw[←Array.getElem?_toList,h1,←RP];simp[j5,hc]

theorem IV(QL:KS.length=64)(QX:ip KS){cv:Array Value}{id salt ys path Qb:ByteArray}{q b8 h:Nat}{t:Int}(Xr:Qb=iD KS [id,ob q 4,ob 33153 2,salt,msg])(hw:nz wd)(hsh:sh<=8)(SA:1<=n)(RV:n<=34*(8/wd))(hq:q<4294967296)(hlen:id.size+6+salt.size+msg.size<=281474976710400)(hC:iX KS cv w)(Rx:w.heap[b8]?=some (.cells cv 26))(RL:w.heap[b9]?=some (.cells (aS t c h wd n sh) 29))
 (hF:ay [(2,.string id),(3,.int .i64 q),(4,.string salt),(5,.string msg),(6,.string ys),(7,.string path),(8,.pk b8 0),(9,.pk b9 0)] 106 [] a)
 (next:∀a w',(Bw w w'/\∃v,im n (λc=>cy (ik Qb.data.toList wd sh) wd c) v w'/\ay [(17,v),(2,.string id),(3,.int .i64 q),(4,.string salt),(5,.string msg),(6,.string ys),(7,.string path),(8,.pk b8 0),(9,.pk b9 0)] 106 [] a)->Rn kX Goal (fr.atR a K) cs w'):
 Rn kX Goal (fr.atR a (.code (rD f38 1)::K)) cs w:=by
 refine bY hF ?_
 iterate 6 refine Gx.q ?_
 refine Gx.k func31 (λw hb _=>Xr▸mH QL QX id salt msg q o_ hlen w (hC.mono hb)) ?_;refine Gx.t [.inr (im n λc=>cy (ik Qb.data.toList wd sh) wd c),.inr (im n λc=>cy (ik Qb.data.toList wd sh) wd c)] ?_;refine CW (λ_ _ _=>im.mono) func30 (λw _ _=>Av Qb t c h wd n sh w hw hsh SA RV (by rw[Xr];exact eH _ _)) λv=>?_;exact uP (λ_ _ _=>im.mono) (λv=>Gw.e λa w' hF hb hM=>next a w' ⟨hb,v,hM.1 rfl,hF.only ⟨rfl,rfl,rfl,rfl,rfl,rfl,rfl,rfl,rfl,trivial⟩⟩) (y:=λo a w ho z=>⟨v,w,tZ ho gx,(z.m _ (Below.refl _ _)).1 k_,Below.refl _ _⟩)
theorem IU(QL:KS.length=64)(QX:ip KS){cv:Array Value}{id ys path en Yn:ByteArray}{q d cap b8 h:Nat}{t:Int}(hYn:Yn=xi KS id q i (cj wd- d) d (ys.extract (32*i) (32*i+32)))(U9:H2=2^wd)(hH0:0<H2)(h2w:H2<=256)(hwd8:wd<=8)(h2t:cj wd=H2- 1)(SS:i<n)(hn:n<=1000)(C5:d<256)(hys:32*i+32<=ys.size)(RR:id.size<=1000)(hq:q<4294967296)(SL:gb<w.heap.size)(hd:w.cell? ⟨gb,i,none⟩=some (.int .i64 (d:Int)))(hC:iX KS cv w)(Rx:w.heap[b8]?=some (.cells cv 26))(RL:w.heap[b9]?=some (.cells (aS t c h wd n sh) 29))
 (hF:ay [(2,.string id),(3,.int .i64 q),(6,.string ys),(8,.pk b8 0),(9,.pk b9 0),(17,.sk gb n cap),(19,.int .i64 i),(18,.string en),(7,.string path)] 106 [] a)
 (next:∀a w',(Bw w w'/\ay [(20,.string Yn),(2,.string id),(3,.int .i64 q),(6,.string ys),(8,.pk b8 0),(9,.pk b9 0),(17,.sk gb n cap),(19,.int .i64 i),(18,.string en),(7,.string path)] 106 [] a)->Rn kX Goal (fr.atR a K) cs w'):
 Rn kX Goal (fr.atR a (.code (rD f38 6)::K)) cs w:=by
 have hp:(1:Int)*2^wd=(H2:Int):=by rw[Int.one_mul,U9,Int.natCast_pow];rfl
 refine bY hF ?_
 iterate 6 refine Gx.q ?_
 refine Gx.q ?_ (y:=λo a w ho z=>(bJ (t:=24) (e:=3) k_ (λw=>by kernel_rfl) ho gx gx SS).1.trans (by rw[fO,Nat.zero_add]));refine Gx.q ?_ (y:=λo a w ho z=>(an az ho gx ((World.cell?_of_block (z.b.block gb SL)).trans hd)).1)
 iterate 2 refine Gx.q ?_
 refine Gx.q ?_ (y:=λo a w ho z=>(gk (m:=1) (k:=wd) ho rfl gx o_ (by rw[hp];omega)).trans (by rw[hp]));refine Gx.q ?_ (v:=.int .i64 (cj wd)) (y:=λo a w ho z=>h2t▸ix (n:=1) ho gx rfl hH0 o_)
 iterate 2 refine Gx.q ?_
 refine Gx.q ?_ (y:=λo a w ho z=>iy (m:=32) ho rfl gx o_);refine Gx.q ?_;refine Gx.q ?_ (y:=λo a w ho z=>iy (m:=32) ho rfl gx o_);refine Gx.q ?_ (y:=λo a w ho z=>aI (n:=32) ho gx rfl o_);refine Gx.q ?_ (y:=λo a w ho z=>(dQ (m:=32*i) (n:=32*i+32) ho gx gx gx o_ hys).1);refine Gx.k (v:=.string Yn) func32 (λw hb _=>hYn▸xX QL QX id _ q i d (cj wd) hq o_ o_ o_ RR (by rw[ByteArray.size_extract];omega) w (hC.mono hb)) ?_;refine Gx.q ?_;exact Gx.e λa w' hF hb _=>next a w' ⟨hb,(hF.only ⟨rfl,rfl,rfl,rfl,rfl,rfl,rfl,rfl,rfl,rfl,trivial⟩)⟩

def Cn(KS:List Int)(id ys:ByteArray)(q tp:Nat)(dg:Nat->Nat):Nat->ByteArray
 |0=>⟨#[]⟩
 |i+1=>Cn KS id ys q tp dg i++xi KS id q i (tp- dg i) (dg i) (ys.extract (32*i) (32*i+32))
def j2(KS:List Int)(id path:ByteArray)(lf:Nat)(x:ByteArray):Nat->ByteArray
 |0=>x
 |i+1=>AZ KS id (bZ lf i) (path.extract (32*i) (32*i+32)) (j2 KS id path lf x i)
theorem kI(KS:List Int)(id:ByteArray)(q i:Nat):∀(m j:Nat) (y:ByteArray),y.size=32->(xi KS id q i m j y).size=32
 |0,_,_,h=>h
 |m+1,j,_,_=>kI KS id q i m (j+1) _ (cU KS _)
theorem rJ(KS:List Int)(id ys:ByteArray)(q tp:Nat)(dg:Nat->Nat):∀i,32*i<=ys.size->(Cn KS id ys q tp dg i).size=32*i
 |0,_=>rfl
 |i+1,h=>by
  have ih:=rJ KS id ys q tp dg i o_;have hg:=kI KS id q i (tp- dg i) (dg i) (ys.extract (32*i) (32*i+32)) (by rw[ByteArray.size_extract];omega);rw[Cn,ByteArray.size_append,ih,hg];omega
theorem yc(KS:List Int)(id path:ByteArray)(lf:Nat)(x:ByteArray)(hx:x.size=32):∀i,(j2 KS id path lf x i).size=32
 |0=>hx
 |_+1=>eH _ _
def yU(f:Func):Code:=.seq (.seq (rG f 4) (.cond (.tmp 36) .skip (.exit 0))) (.seq (.block 1 (.seq (rD f 6) (rG f 7))) (rG f 5))
def Gt(f:Func):Code:=.seq (.seq (rG f 11) (.cond (.tmp 76) .skip (.exit 2))) (.seq (.block 3 (.seq (rG f 13) (.seq (.seq (rG f 14) (.cond (.tmp 88) (rG f 15) (rG f 16))) (rG f 17)))) (rG f 12))
theorem No:f38.body=some (.seq (rG f38 0) (.seq (rD f38 1) (.seq (rG f38 2) (.seq (.seq (rG f38 3) (.block 0 (.loop (yU f38))))
 (.seq (rG f38 8) (.seq (rG f38 9) (.seq (.seq (rG f38 10) (.block 2 (.loop (Gt f38)))) (.seq (rG f38 18) .ret)))))))):=by kernel_rfl
section
variable(QL:KS.length=64)(QX:ip KS){cv:Array Value}{id ys path:ByteArray}{q h cap b8:Nat}{t:Int}{dg:Nat->Nat}
 (hC:iX KS cv w0) (Rx:w0.heap[b8]?=some (.cells cv 26)) (RL:w0.heap[b9]?=some (.cells (aS t c h wd n sh) 29)) (RR:id.size<=1000)
include QL QX hC Rx RL RR
theorem Cj(hq:q<4294967296)(hw:nz wd)(hn:n<=1000)(hys:32*n<=ys.size)(C5:∀c,dg c<256)(SL:gb<w0.heap.size)(Vb:∀c,c<n->w0.cell? ⟨gb,c,none⟩=some (.int .i64 (dg c)))
 (next:∀a w,Bw w0 w->ay [(18,.string (Cn KS id ys q (cj wd) dg n)),(2,.string id),(3,.int .i64 q),(7,.string path),(8,.pk b8 0),(9,.pk b9 0)] 106 [] a->Rn kX Goal (fr.atR a K) cs w):
 ∀(m i:Nat) (a:Act) (w:World),n- i=m->i<=n->Bw w0 w->ay [(2,.string id),(3,.int .i64 q),(6,.string ys),(8,.pk b8 0),(9,.pk b9 0),(17,.sk gb n cap),(19,.int .i64 i),(18,.string (Cn KS id ys q (cj wd) dg i)),(7,.string path)] 106 [] a->
  Rn kX Goal (fr.atR a (.code (yU f38):: .inLoop (yU f38):: .inBlock 0::K)) cs w:=by
 have WF:=lR hw;have XX:=(Array.getElem?_eq_some_iff.1 Rx).1;have VQ:=(Array.getElem?_eq_some_iff.1 RL).1;intro m;induction m with
 |zero=>
  intro i a w hm hi hB hF;have SS:i=n:=by omega
  have hk:=(hB.block b9 VQ).trans RL
  iterate 4 refine a9 hF λa hF=>?_
  refine Rn.plain rfl (Rn.cond _ (hF.g 36) ?_);rw[decide_eq_false o_];exact Rn.plain rfl (next a w hB (hF.only ⟨by rw[←SS];rfl,rfl,rfl,rfl,rfl,rfl,trivial⟩))
 |succ m ih=>
  intro i a w hm hi hB hF;have SS:i<n:=by omega
  have hk:=(hB.block b9 VQ).trans RL;have hbx:=(hB.block b8 XX).trans Rx
  iterate 4 refine a9 hF λa hF=>?_
  refine Rn.plain rfl (Rn.cond _ (hF.g 36) ?_);rw[decide_eq_true o_];refine Rn.plain rfl (Rn.plain rfl (Rn.plain rfl (Rn.plain rfl ?_)));refine IU (d:=dg i) (Yn:=xi KS id q i (cj wd- dg i) (dg i) (ys.extract (32*i) (32*i+32))) (H2:=2^wd) QL QX rfl rfl (Nat.two_pow_pos wd) (by rcases hw with rfl|rfl|rfl<;>decide) (by rcases hw with rfl|rfl|rfl<;>decide) rfl SS hn (C5 i) o_ RR hq (Nat.lt_of_lt_of_le SL hB.size) ((World.cell?_of_block (w:=w0) (a:=⟨gb,i,none⟩) (hB.block gb SL)).trans (Vb i SS)) (hC.mono hB) hbx hk (hF.only ⟨rfl,rfl,rfl,rfl,rfl,rfl,rfl,rfl,rfl,trivial⟩) λa w2 ⟨QN,hF⟩=>?_;have hes:=rJ KS id ys q (cj wd) dg i o_;have hgs:=kI KS id q i (cj wd- dg i) (dg i) (ys.extract (32*i) (32*i+32)) (by rw[ByteArray.size_extract];omega)
  iterate 7 refine a9 hF λa hF=>?_
  refine Rn.plain rfl (Rn.plain rfl (ih (i+1) a w2 o_ o_ (ab hB hB.size QN) (hF.only ⟨rfl,rfl,rfl,rfl,rfl,rfl,?_,rfl,rfl,trivial⟩)));rw[Int.natCast_add];rfl
theorem Gs{lf:Nat}{x:ByteArray}(hx:x.size=32)(hh:h<=8)(hlf:lf<9223372036854775808)(hp:32*h<=path.size)
 (next:∀a w,Bw w0 w->ay [(21,.string (j2 KS id path lf x h))] 106 [] a->Rn kX Goal (fr.atR a K) cs w):
 ∀(m i:Nat) (a:Act) (w:World),h- i=m->i<=h->Bw w0 w->ay [(21,.string (j2 KS id path lf x i)),(22,.int .i64 (bZ lf i)),(23,.int .i64 i),(2,.string id),(7,.string path),(8,.pk b8 0),(9,.pk b9 0)] 106 [] a->
  Rn kX Goal (fr.atR a (.code (Gt f38):: .inLoop (Gt f38):: .inBlock 2::K)) cs w:=by
 have XX:=(Array.getElem?_eq_some_iff.1 Rx).1;have VQ:=(Array.getElem?_eq_some_iff.1 RL).1;intro m;induction m with
 |zero=>
  intro i a w hm hi hB hF;have SS:i=h:=by omega
  have hk:=(hB.block b9 VQ).trans RL
  iterate 4 refine a9 hF λa hF=>?_
  refine Rn.plain rfl (Rn.cond _ (hF.g 76) ?_);rw[decide_eq_false o_];exact Rn.plain rfl (next a w hB (hF.only ⟨by rw[←SS];rfl,trivial⟩))
 |succ m ih=>
  intro i a w hm hi hB hF;have SS:i<h:=by omega
  have hk:=(hB.block b9 VQ).trans RL;have hbx:=(hB.block b8 XX).trans Rx;have hle:=mR lf i
  iterate 4 refine a9 hF λa hF=>?_
  refine Rn.plain rfl (Rn.cond _ (hF.g 76) ?_);rw[decide_eq_true o_];refine Rn.gr ?_;have e32:(32:Int)*(i:Int)=((32*i:Nat):Int):=by omega
  have e32':((32*i:Nat):Int)+32=((32*i+32:Nat):Int):=by omega
  iterate 3 refine a9 hF λa hF=>?_
  rw[e32]at hF
  iterate 2 refine a9 hF λa hF=>?_
  rw[e32]at hF;refine a9 hF λa hF=>?_;rw[e32']at hF
  iterate 2 refine a9 hF λa hF=>?_
  refine a9 hF λa hF=>?_;refine a9 hF λa hF=>?_;refine a9 hF λa hF=>?_;refine Rn.plain rfl (Rn.cond _ (hF.g 88) ?_);have hps:(path.extract (32*i) (32*i+32)).size<=32:=by rw[ByteArray.size_extract];omega
  have hxs:=yc KS id path lf x hx i;have Yp:((bZ lf i:Int)/2)=((bZ lf i/2:Nat):Int):=by rw[Int.natCast_ediv];rfl
  have done:∀(a:Act) (w2:World),Bw w w2->ay [(21,.string (j2 KS id path lf x (i+1))),(22,.int .i64 (bZ lf i)),(23,.int .i64 i),(2,.string id),(7,.string path),(8,.pk b8 0),(9,.pk b9 0)] 106 [] a->
   Rn kX Goal (fr.atR a (.code (rG f38 17):: .inBlock 3:: .code (rG f38 12):: .inLoop (Gt f38):: .inBlock 2::K)) cs w2:=by
   intro a w2 QN hF;refine Rn.region (L:=[0,1,2]) rfl ?_;refine oY hF 103 22 d_ rfl k_ λa hF=>?_;refine af hF (λo ho=>qN ho (hF.g 103) rfl o_ o_) λa hF=>?_;rw[Yp]at hF
   iterate 4 refine a9 hF λa hF=>?_
   refine Rn.plain rfl (Rn.plain rfl (ih (i+1) a w2 o_ o_ (ab hB hB.size QN) (hF.only ⟨rfl,rfl,?_,rfl,rfl,rfl,rfl,trivial⟩)));rw[Int.natCast_add];rfl
  by_cases VO:bZ lf i%2=1
  .rw[show(((bZ lf i:Int)%2)==1)=true from by rw[beq_iff_eq];omega];refine af hF (λo ho=>cc hC.two ho (hF.g 8) hbx) λa hF=>?_;refine oY hF 90 2 d_ rfl k_ λa hF=>?_;refine oY hF 91 22 d_ rfl k_ λa hF=>?_;refine af hF (λo ho=>qN ho (hF.g 91) rfl o_ o_) λa hF=>?_;rw[Yp]at hF
   iterate 2 refine a9 hF λa hF=>?_
   refine bf hF func65 (R:=λv w'=>v=.string (j2 KS id path lf x (i+1))/\Bw w w') ((jN QL QX id (path.extract (32*i) (32*i+32)) (j2 KS id path lf x i) (bZ lf i/2) o_ o_ w (hC.mono hB)).mono λe w' h=>⟨_,h.1,by simp[j2,AZ,VO],h.2⟩) λv w2 hv a hF=>?_;obtain⟨rfl,QN⟩:=hv;refine a9 hF λa hF=>?_;exact Rn.plain rfl (done a w2 QN (hF.only ⟨rfl,rfl,rfl,rfl,rfl,rfl,rfl,trivial⟩))
  .rw[show(((bZ lf i:Int)%2)==1)=false from by rw[beq_eq_false_iff_ne];omega];refine af hF (λo ho=>cc hC.two ho (hF.g 8) hbx) λa hF=>?_;refine oY hF 97 2 d_ rfl k_ λa hF=>?_;refine oY hF 98 22 d_ rfl k_ λa hF=>?_;refine af hF (λo ho=>qN ho (hF.g 98) rfl o_ o_) λa hF=>?_;rw[Yp]at hF
   iterate 2 refine a9 hF λa hF=>?_
   refine bf hF func65 (R:=λv w'=>v=.string (j2 KS id path lf x (i+1))/\Bw w w') ((jN QL QX id (j2 KS id path lf x i) (path.extract (32*i) (32*i+32)) (bZ lf i/2) o_ o_ w (hC.mono hB)).mono λe w' h=>⟨_,h.1,by simp[j2,AZ,VO],h.2⟩) λv w2 hv a hF=>?_;obtain⟨rfl,QN⟩:=hv;refine a9 hF λa hF=>?_;exact Rn.plain rfl (done a w2 QN (hF.only ⟨rfl,rfl,rfl,rfl,rfl,rfl,rfl,trivial⟩))
end

def rM(KS:List Int)(id salt msg ys path:ByteArray)(h wd sh n q:Nat):ByteArray:=
 j2 KS id path (2^h+q) (iD KS [id,ob (2^h+q) 4,ob 33410 2,iD KS [id,ob q 4,ob 32896 2,Cn KS id ys q (cj wd) (λc=>cy (ik (iD KS [id,ob q 4,ob 33153 2,salt,msg]).data.toList wd sh) wd c) n]]) h
theorem Ct(QL:KS.length=64)(QX:ip KS){cv:Array Value}(id salt msg ys path:ByteArray)(t c:Int)(h wd sh n q:Nat)(hw:nz wd)(hsh:sh<=8)(SA:1<=n)(RV:n<=34*(8/wd))(hh:h<=8)(hq:q<256)(RR:id.size<=1000)(hlen:id.size+6+salt.size+msg.size<=281474976710400)(hys:32*n<=ys.size)(hp:32*h<=path.size)(w:World)(hC:iX KS cv w):
 Cl kX 38 #[.agg cv,.agg (aS t c h wd n sh),.string id,.int .i64 q,.string salt,.string msg,.string ys,.string path] w λe w'=>e=.returned (.string (rM KS id salt msg ys path h wd sh n q))/\Bw w w':=by
 have SJ:8/wd<=4:=by rcases hw with rfl|rfl|rfl<;>decide
 have Xb:n<=136:=Nat.le_trans RV (Nat.le_trans (Nat.mul_le_mul_left 34 SJ) d_);have Wt:2^h<=256:=Nat.le_trans (Nat.pow_le_pow_right d_ hh) d_;have WF:=lR hw;refine av (N:=106) func38 No λcs a hF=>?_;refine Rn.gr ?_;refine fG hF 8 0 26 d_ rfl k_ λa hF=>?_;show Rn _ _ _ _ (w.alloc (.cells cv 26));refine fG hF 9 1 29 d_ rfl k_ λa hF=>?_;rw[ao]at hF;show Rn _ _ _ _ ((w.alloc (.cells cv 26)).alloc (.cells (aS t c h wd n sh) 29));have QM:Bw w ((w.alloc (.cells cv 26)).alloc (.cells (aS t c h wd n sh) 29)):=ab (aD w _) (by rw[ao];omega) (aD _ _);have h8:=(bp (w.alloc (.cells cv 26)) (.cells (aS t c h wd n sh) 29) (b:=w.heap.size) (by rw[ao];omega)).trans (aK w _);have h9:=aK (w.alloc (.cells cv 26)) (.cells (aS t c h wd n sh) 29);rw[ao]at h9;revert QM h8 h9;generalize (w.alloc (.cells cv 26)).alloc (.cells (aS t c h wd n sh) 29)=w1;intro QM h8 h9;refine a9 hF λa hF=>?_;refine Rn.plain rfl (Rn.plain rfl ?_);refine IV (Qb:=iD KS [id,ob q 4,ob 33153 2,salt,msg]) QL QX rfl hw hsh SA RV o_ hlen (hC.mono QM) h8 h9 (hF.only ⟨rfl,rfl,rfl,rfl,rfl,rfl,rfl,rfl,trivial⟩) λa w2 ⟨QN,vg,Si,hF⟩=>?_;have RD:Bw w w2:=ab QM QM.size QN;have h82:=bk QN h8;have h92:=bk QN h9;clear h8 h9 QM QN;obtain⟨gb,cap,rfl,SL,Vb⟩:=Si
 iterate 2 refine a9 hF λa hF=>?_
 refine Rn.plain rfl (Rn.plain rfl (Rn.plain rfl ?_));have C5:∀c,cy (ik (iD KS [id,ob q 4,ob 33153 2,salt,msg]).data.toList wd sh) wd c<256:=λc=>by
  have:=kL (ik (iD KS [id,ob q 4,ob 33153 2,salt,msg]).data.toList wd sh) wd c;omega
 refine Cj (dg:=λc=>cy (ik (iD KS [id,ob q 4,ob 33153 2,salt,msg]).data.toList wd sh) wd c) QL QX (hC.mono RD) h82 h92 RR o_ hw o_ hys C5 SL Vb (λa w3 RF hF=>?_) n 0 a w2 rfl (Nat.zero_le _) (Below.refl _ _) (hF.only ⟨rfl,rfl,rfl,rfl,rfl,rfl,rfl,rfl,rfl,trivial⟩);have h83:=bk RF h82;have h93:=bk RF h92;have UX:=(hC.mono RD).mono RF;have hB3':Bw w w3:=ab RD RD.size RF;clear h82 h92 RF Vb SL;have hes:=rJ KS id ys q (cj wd) (λc=>cy (ik (iD KS [id,ob q 4,ob 33153 2,salt,msg]).data.toList wd sh) wd c) n hys;obtain⟨en,Xi⟩:∃en,en=Cn KS id ys q (cj wd) (λc=>cy (ik (iD KS [id,ob q 4,ob 33153 2,salt,msg]).data.toList wd sh) wd c) n:=⟨_,rfl⟩;unfold rM;rw[←Xi]at hF hes⊢;refine af hF (λo ho=>cc hC.two ho (hF.g 8) h83) λa hF=>?_;refine a9 hF λa hF=>?_
 iterate 3 refine a9 hF λa hF=>?_
 refine bH hF func64 ((vV QL QX id en q h wd n sh t c hh o_ o_ w3 UX)) λw4 R0 a hF=>?_;have h84:=bk R0 h83;have h94:=bk R0 h93;have WY:=UX.mono R0;have Ry:Bw w w4:=ab hB3' hB3'.size R0;refine a9 hF λa hF=>?_;refine Rn.gr ?_;obtain⟨H2,U9⟩:∃H2,H2=2^h:=⟨_,rfl⟩;have hpw:(1:Int)*2^h=(H2:Int):=by rw[Int.one_mul,U9,Int.natCast_pow];rfl
 rw[←U9]at hF Wt⊢
 iterate 2 refine a9 hF λa hF=>?_
 refine af hF (λo ho=>gk (m:=1) (k:=h) ho rfl (hF.g 69) o_ (by rw[hpw];omega)) λa hF=>?_;rw[hpw]at hF
 iterate 2 refine a9 hF λa hF=>?_
 rw[←Int.natCast_add]at hF
 iterate 2 refine a9 hF λa hF=>?_
 refine Rn.plain rfl (Rn.plain rfl (Rn.plain rfl ?_));refine Gs (lf:=H2+q) QL QX WY h84 h94 RR (eH _ _) hh o_ hp (λa w5 UF hF=>?_) h 0 a w4 rfl (Nat.zero_le _) (Below.refl _ _) (hF.only ⟨rfl,rfl,rfl,rfl,rfl,rfl,rfl,trivial⟩)
 iterate 2 refine a9 hF λa hF=>?_
 exact aL hF ⟨rfl,ab Ry Ry.size UF⟩

end Go.Proofs.YtkmoglhgkcnalaaGreatDoor.L1
namespace Go.Proofs.YtkmoglhgkcnalaaGreatDoor
open Go Go.Conc Go.RowKit
theorem jR:∀{F:List (Nat×Value)} {d:Nat} {v:Value},F.lookup d=some v->(d,v)∈F
 |p::r,d,v,h=>by
  by_cases e:d=p.1
  .subst e;have e2:(p::r).lookup p.1=some p.2:=(by simp[List.lookup]);rw[e2]at h;cases h;exact List.mem_cons_self
  .have e2:(p::r).lookup d=r.lookup d:=(by simp[List.lookup,show(d==p.1)=false from by simpa using e]);rw[e2]at h;exact List.mem_cons_of_mem _ (jR h)
theorem AP(h1:a.defers=ds)(h2:N<=a.tmps.size)(h:∀p∈F,a.tmps[p.1]?=some p.2):ay F N ds a:=⟨h1,h2,λd v hd=>h (d,v) (jR hd)⟩
theorem ay.more(h:ay F N ds a){d:Nat}(hv:a.tmps[d]?=some v):ay ((d,v)::F) N ds a:=⟨h.defers,h.size,λe u he=>by
 by_cases q:e=d
 .subst q;simp only[List.lookup,beq_self_eq_true,Option.some.injEq]at he;subst he;exact hv
 .simp only[List.lookup,show(e==d)=false from by simpa using q]at he;exact h.slot e u he⟩
theorem ay.all(h:ay F N ds a)(hn:(F.map (·.1)).Nodup):∀p∈F,a.tmps[p.1]?=some p.2:=by
 intro p hp;refine h.slot p.1 p.2 ?_;clear h;induction F with
 |nil=>cases hp
 |cons q r ih=>
  rw[List.map_cons,List.nodup_cons]at hn;rcases List.mem_cons.1 hp with rfl|hp
  .simp[List.lookup]
  .have:p.1≠q.1:=λe=>hn.1 (by rw[←e];exact List.mem_map_of_mem hp);simp only[List.lookup,show(p.1==q.1)=false from by simpa using this];exact ih hn.2 hp
def AS(C:iJ)(ops:Array Oper)(a:Act)(o:Oper)(w:World)(R:Value->World->Prop):Prop:=(Region.wanted o (yielded ops a.tmps)=true/\((∃v w',Rk C a.eval o w (.value v) w'/\R v w')\/∃w',Rk C a.eval o w .skip w'/\R undef w'))\/(Region.wanted o (yielded ops a.tmps)=false/\R undef w)
structure G9 (df:List Deferred) (fx:List (Nat×Value)) (ds:List (Option Nat)) (G:Nat->Value->World->Prop) (N:Nat) (Rel:World->World->Prop) (w0:World) (a:Act) (w:World) (L:Nat->Prop):Prop where
 defers:a.defers=df
 size:N<=a.tmps.size
 fixed:∀p∈fx,a.tmps[p.1]?=some p.2
 old:Rel w0 w
 come:∀n x,ds[n]?=some x->L n->∃v,(∀d,x=some d->a.tmps[d]?=some v)/\G n v w
def Ar(ops:Array Oper)(ds:List (Option Nat))(fx:List Nat)(N:Nat):Bool:=
 yX ops&&decide (ds.length=ops.size)&&((List.range ds.length).all λn=>((ops[n]?).map λo=>some o.dst==ds[n]?&&vP o.op).getD false)&&((List.range ds.length).all λn=>(List.range ds.length).all λm=>n==m||ds[n]?==some none||ds[n]? !=ds[m]?)&&(ds.all λx=>(x.map λd=>decide (d<N)&& !fx.contains d).getD true)
section
variable{C:iJ}{b:Frame}{k:List Item}
theorem F_{o:Oper}(ho:ops[n]?=some o)(QT:∀c,o.op≠ .defer c)(h:AS C ops a o w R)(next:∀v w',R v w'->Rn C Goal (b.atR (a.put o.dst v) (.inRegion ops rest::k)) cs w'):Rn C Goal (b.atR a (.inRegion ops (n::rest)::k)) cs w:=by
 rcases h with⟨hw,⟨v,w',h1,h2⟩|⟨w',h1,h2⟩⟩|⟨hw,h⟩
 .exact oi ho hw QT h1 (next v w' h2)
 .exact zu ho hw QT h1 (next undef w' h2)
 .exact nA ho hw (next undef w h)
theorem CS{id:Nat}{ds:List (Option Nat)}{G:Nat->Value->World->Prop}{Rel:World->World->Prop}(RX:C.P.follows .mixedOrders=true)(RB:Ar ops ds (fx.map (·.1)) N=true)(hdrew:∀d,Rel w {w with drawn:=d})(XK:∀w w' Rb,Rel w w'->Rel w' Rb->Rel w Rb)(Sf:∀n v w w',G n v w->Rel w w'->G n v w')
 (QH:∀n o a w',n<ds.length->ops[n]?=some o->Rel w w'->N<=a.tmps.size->(∀p∈fx,a.tmps[p.1]?=some p.2)->(∀m x,ds[m]?=some x->kg ops n m=true->∃v,(∀d,x=some d->a.tmps[d]?=some v)/\G m v w')->AS C ops a o w' λv Rb=>G n v Rb/\Rel w' Rb)
 (Rw:∀a w',G9 df fx ds G N Rel w a w' (λ_=>True)->Rn C Goal (b.atR a k) cs w') (Y9:a.defers=df) (hN:N<=a.tmps.size) (Uq:∀p∈fx,a.tmps[p.1]?=some p.2) (hp:C.pad=false:=by rfl):Rn C Goal (b.atR a (.code (.region id ops true)::k)) cs w:=by
 simp only[Ar,Bool.and_eq_true,decide_eq_true_eq,List.all_eq_true,List.mem_range,Bool.or_eq_true]at RB;obtain⟨⟨⟨⟨c1,c3⟩,c4⟩,c5⟩,c6⟩:=RB;refine AM λt w1 hpd=>?_;rw[hp]at hpd;rw[sH RX];refine Ef (Z:=λa L w=>Rn C Goal (b.atR a (.inRegion ops L::k)) cs w) (n_ c1) (λlisted a w'=>G9 df fx ds G N Rel w a w' λn=>listed[n]?=some true)
  (λlisted a w' Rv h=>?_) (λlisted a w' m o rest QY ho hm Rs h2 hgo=>?_) t a _ ⟨Y9,hN,Uq,by rw[L1.A4 hpd];exact hdrew _,λn x hd hl=>?_⟩
 .exact Rn.plain rfl (Rw a w' ⟨h.defers,h.size,h.fixed,h.old,λn x hd _=>h.come n x hd (Rv n (by have:=(List.getElem?_eq_some_iff.1 hd).1;omega))⟩)
 .have hmlt:m<ops.size:=(Array.getElem?_eq_some_iff.1 ho).1;have WQ:m<ds.length:=by omega
  have hc:=c4 m WQ;rw[ho]at hc;simp only[Option.map_some,Option.getD_some,Bool.and_eq_true,beq_iff_eq]at hc;obtain⟨e1,e3⟩:=hc;refine F_ ho (λc e=>by rw[e]at e3;cases e3) (QH m o a w' WQ ho h2.old h2.size h2.fixed λn x hd hn=>h2.come n x hd (cP hn ho Rs)) λv Rb hv=>?_;have hold:=XK _ _ _ h2.old hv.2;have QQ:∀n x d,ds[n]?=some x->x=some d->n≠m->o.dst≠some d:=λn x d hx hxd Uc e=>by
   have hn:n<ds.length:=(List.getElem?_eq_some_iff.1 hx).1;rcases c5 n hn m WQ with(h|h)|h
   .exact Uc (by simpa using h)
   .rw[hx,hxd]at h;simp at h
   .rw[hx,hxd,←e1,e]at h;simp at h
  cases UQ:o.dst with
  |none=>
   refine hgo _ _ ⟨h2.defers,h2.size,h2.fixed,hold,λn x hd hl=>?_⟩;by_cases Uc:n=m
   .subst Uc;rw[←e1,UQ]at hd;cases hd;exact⟨v,λd hd=>(by cases hd),hv.1⟩
   .rw[Array.getElem?_setIfInBounds_ne (Ne.symm Uc)]at hl;obtain⟨u,V4,hu2⟩:=h2.come n x hd hl;exact⟨u,V4,Sf n u w' Rb hu2 hv.2⟩
  |some dm=>
   have K1:=c6 (some dm) (by rw[←UQ];exact List.mem_of_getElem? e1.symm);simp only[Option.map_some,Option.getD_some,Bool.and_eq_true,decide_eq_true_eq]at K1;refine hgo _ _ ⟨h2.defers,by simpa[Act.put]using h2.size,λp hp=>?_,hold,λn x hd hl=>?_⟩
   .show(a.tmps.setIfInBounds dm v)[p.1]?=_;rw[Array.getElem?_setIfInBounds_ne (λe=>by
     have h6:dm∉fx.map (·.1):=(by simpa using K1.2);exact h6 (by rw[e];exact List.mem_map_of_mem hp))]
    exact h2.fixed p hp
   .by_cases Uc:n=m
    .subst Uc;rw[←e1,UQ]at hd;cases hd;refine⟨v,λd hd=>?_,hv.1⟩;cases hd;show(a.tmps.setIfInBounds dm v)[dm]?=_;exact Array.getElem?_setIfInBounds_self_of_lt (Nat.lt_of_lt_of_le K1.1 h2.size)
    .rw[Array.getElem?_setIfInBounds_ne (Ne.symm Uc)]at hl;obtain⟨u,V4,hu2⟩:=h2.come n x hd hl;refine⟨u,λd hxd=>?_,Sf n u w' Rb hu2 hv.2⟩;show(a.tmps.setIfInBounds dm v)[d]?=_;rw[Array.getElem?_setIfInBounds_ne (λe=>QQ n x d hd hxd Uc (by rw[UQ,e]))];exact V4 d hxd
 .rw[Array.getElem?_replicate]at hl;split at hl
  .cases hl
  .cases hl
theorem DN{o:Oper}{nx:Next}(h:(execOp ev o).run C.P w=.ok nx w')(e:o.op=p)(ok:kE C.P ev p)(hz:C.pad=false:=by rfl)(hq:w'.drawn=w.drawn:=by rfl):Rk C ev o w nx w':=⟨h,gA (e▸ok),λx=>absurd (hz.symm.trans x) s_,hq⟩
theorem gW{o:Oper}(hw:∀y,Region.wanted o y=true)(e:o.op=p)(ok:kE C.P a.eval p)(h:(execOp a.eval o).run C.P w=.ok (.value v) w)(hR:R v w)(hz:C.pad=false:=by rfl):AS C ops a o w R:=.inl ⟨hw _,.inl ⟨v,w,DN h e ok hz,hR⟩⟩
end

end Go.Proofs.YtkmoglhgkcnalaaGreatDoor
namespace Go.Proofs.YtkmoglhgkcnalaaGreatDoor.L1
open Go Go.Conc Go.RowKit Go.Proofs.YtkmoglhgkcnalaaGreatDoor
theorem nJ{o:Oper}{tmps:Array Value}{g d:Nat}{want q:Bool}(hg:o.guard=some (g,want))(hd:(ops[g]?).bind (·.dst)=some d)(hv:tmps[d]?=some (.bool q)):Region.wanted o (yielded ops tmps)=(q==want):=by
 unfold Region.wanted yielded;rw[hg];simp[hd,hv]
section
variable{o:Oper}{y:Operand}
theorem pO(QH:o.op=.alloc 29):(execOp ev o).run prog w=.ok (.value (.pk w.heap.size 0)) (w.alloc (.cells (aS 0 0 0 0 0 0) 29)):=by
 have e:execOp ev o=(do pure (.value (←Instr.alloc 29 true (.tuple #[])))):=by simp only[execOp,QH]
 have h2:(do pure (.value (←Instr.alloc 29 true (.tuple #[]))):Sem Next).run prog w=.ok (.value (.pk w.heap.size 0)) (w.alloc (.cells (aS 0 0 0 0 0 0) 29)):=by kernel_rfl
 rw[e,h2]
theorem Hl{t:Int}(QH:o.op=.build 29 #[(0,x),(1,y)])(h1:ev x=.int .i64 t)(h2:ev y=.int .i64 c):(execOp ev o).run prog w=.ok (.value (.agg (aS t c 0 0 0 0))) w:=by
 have e:execOp ev o=(do pure (.value (←Instr.build 29 #[(0,.int .i64 t),(1,.int .i64 c)]))):=by simp[execOp,QH,h1,h2]
 have h2:(do pure (.value (←Instr.build 29 #[(0,.int .i64 t),(1,.int .i64 c)])):Sem Next).run prog w=.ok (.value (.agg (aS t c 0 0 0 0))) w:=by kernel_rfl
 rw[e,h2]
end
theorem rq:(prog.info? 29).map (·.size)=some 6:=by kernel_rfl
theorem h_{b:Frame}{k:List Item}{m1:Nat}(hF:ay F N ds a)(d x j:Nat)(c:Int)(hd:d<N)(hj:j<6)(hx:F.lookup x=some (.pk b4 0))
 (h1:(ops[m]?).map (λo=>(o.dst,o.op,o.guard))=some (some d,.fieldAddr 29 (.tmp x) j,none)) (h2:(ops[m1]?).map (λo=>(o.dst,o.op,o.guard))=some (none,.store 3 (.tmp d) (.const (.int .i64 c)),none)) (R0:w.heap[b4]?=some (.cells cur 29)) {v0:Value} (Tz:cur[j]?=some v0)
 (next:∀a' w',ay F N ds a'->w'.heap[b4]?=some (.cells (cur.setIfInBounds j (.int .i64 c)) 29)->(∀M,M<=b4->Below M w w')->Rn kX Goal (b.atR a' (.inRegion ops rest::k)) cs w') (hFd:F.lookup d=none):Rn kX Goal (b.atR a (.inRegion ops (m::m1::rest)::k)) cs w:=by
 have hz:lS prog 29 j=true:=by rcases(by omega:j=0\/j=1\/j=2\/j=3\/j=4\/j=5)with rfl|rfl|rfl|rfl|rfl|rfl<;>kernel_rfl
 refine Rn.op hF d (.fieldAddr 29 (.tmp x) j) hd h1 s_ (λo ho=>kv j hj ho (hF.get hx)) (ok:=xY hz) λa hF2=>?_;refine il hF2 (.store 3 (.tmp d) (.const (.int .i64 c))) h2 s_ (λo ho=>(dr (w:=w) (b:=b4) (k:=j) (v:=.int .i64 c) (v0:=v0) rfl rfl k_ ho (hF2.get (d:=d) (by simp[List.lookup])) rfl (by rw[ak R0];exact Tz) (by simp[World.frozen?,R0])).1) λa hF3=>?_;refine next a _ (hF3.sub λe v he=>?_) (jl R0) λM hM=>cN w _ _ hM
 have QQ:e≠d:=λq=>by rw[q,hFd]at he;cases he
 simp only[List.lookup,show(e==d)=false from by simpa using QQ];exact he
def fo(T:TypeId)(fin:Array Value)(N:Nat)(w w':World):Prop:=Below N w w'/\w'.heap[N+1]?=w.heap[N+1]?/\((∃cur,w.heap[N]?=some (.cells cur T)/\cur.size=6)->∃cur,w'.heap[N]?=some (.cells cur T)/\cur.size=6)/\(w.heap[N]?=some (.cells fin T)->w'.heap[N]?=some (.cells fin T))
theorem fo.refl{T:TypeId}{fin:Array Value}(w:World):fo T fin N w w:=⟨Below.refl _ _,rfl,λh=>h,λh=>h⟩
theorem fo.trans{T:TypeId}{fin:Array Value}(w w' Rb:World)(h:fo T fin N w w')(h':fo T fin N w' Rb):fo T fin N w Rb:=⟨h.1.trans h'.1,h'.2.1.trans h.2.1,λx=>h'.2.2.1 (h.2.2.1 x),λx=>h'.2.2.2 (h.2.2.2 x)⟩
def PP(t c:Int)(h wd n sh N:Nat)(c1 c2:Bool):Nat->Value->World->Prop
 |0,v,_=>v=.agg (aS t c h wd n sh)
 |1,v,_=>v=.pk (N+1) 2
 |2,v,_=>v=.int .i64 h
 |3,v,_=>v=.bool c1
 |4,v,_=>v=.bool c1
 |5,v,_=>c1=true->v=.pk (N+1) 3
 |6,v,_=>c1=true->v=.int .i64 wd
 |7,v,_=>c1=true->v=.bool c2
 |8,v,_=>v=.bool (c1&&c2)
 |9,_,w=>w.heap[N]?=some (.cells (aS t c h wd n sh) 29)
 |_,v,_=>v=.bool (c1&&c2)
theorem EZ{t:Int}{h:Nat}{c1 c2:Bool}(m:Nat)(v:Value)(w w':World)(hg:PP t c h wd n sh N c1 c2 m v w)(hr:fo 29 (aS t c h wd n sh) N w w'):PP t c h wd n sh N c1 c2 m v w':=by
 match m,hg with
 |0,h=>exact h
 |1,h=>exact h
 |2,h=>exact h
 |3,h=>exact h
 |4,h=>exact h
 |5,h=>exact h
 |6,h=>exact h
 |7,h=>exact h
 |8,h=>exact h
 |9,h=>exact hr.2.2.2 h
 |_+10,h=>exact h
section
variable{t:Int}{h:Nat}{c1 c2:Bool}
theorem M3(R9:c1=decide ((h:Int)>0))(Rh:c2=decide ((wd:Int)>0))(RL:w.heap[N+1]?=some (.cells (aS t c h wd n sh) 29))(hz:w.heap[N]?=some (.cells (aS 0 0 0 0 0 0) 29))(hF:ay [(4,.pk N 0),(6,.pk (N+1) 0)] 41 [] a)
 (next:∀a w',Below N w w'->w'.heap[N]?=some (.cells (aS t c h wd n sh) 29)->ay [(5,.bool (c1&&c2)),(4,.pk N 0)] 41 [] a->Rn kX Goal ((base 27).atR a K) cs w'):
 Rn kX Goal ((base 27).atR a (.code (rD f27 19)::K)) cs w:=by
 refine CS (fx:=[(4,.pk N 0),(6,.pk (N+1) 0)]) (ds:=[some 32,some 33,some 34,some 35,some 36,some 37,some 38,some 39,some 40,none,some 5]) (N:=41) (df:=[]) (G:=PP t c h wd n sh N c1 c2) (Rel:=fo 29 (aS t c h wd n sh) N) k_ k_
  (λd=>⟨⟨rfl,rfl,rfl,Nat.le_refl _,λ_ _=>rfl⟩,rfl,λh=>h,λh=>h⟩) fo.trans EZ (λm o a w' hm ho Sk QY Uq QQ=>?_) (λa w' hG=>?_) hF.defers hF.size (hF.all s_)
 .have f4:=aQ (Uq _ (List.mem_of_getElem? (i:=0) rfl));have f6:=aQ (Uq _ (List.mem_of_getElem? (i:=1) rfl));have VV:=Sk.2.1.trans RL;obtain⟨cur,Tz,hcur6⟩:=Sk.2.2.1 ⟨_,hz,rfl⟩;have get:∀{m d:Nat},[some 32,some 33,some 34,some 35,some 36,some 37,some 38,some 39,some 40,none,some 5][m]?=some (some d)->kg (bC f27 19) _ m=true->∃v,a.tmps[d]?=some v/\PP t c h wd n sh N c1 c2 m v w':=λ{m d} h1 h2=>by
   obtain⟨v,hv,hg⟩:=QQ m (some d) h1 h2;exact⟨v,hv d rfl,hg⟩
  have first:∀{o:Oper} {R:Value->World->Prop} {v:Value} {p:Op},o.guard=some (4,true)->a.tmps[36]?=some (.bool c1)->o.op=p->(c1=true->kE prog a.eval p/\(execOp a.eval o).run prog w'= .ok (.value v) w'/\R v w')->(c1=false->R undef w')->AS kX (bC f27 19) a o w' R:=λ{o R v p} h1 h3 e h4 h5=>by
   have hw:=nJ (ops:=bC f27 19) (tmps:=a.tmps) (d:=36) h1 k_ h3;cases c1 with
   |true=>exact .inl ⟨hw,.inl ⟨v,w',DN (h4 rfl).2.1 e (h4 rfl).1,(h4 rfl).2.2⟩⟩
   |false=>exact .inr ⟨hw,h5 rfl⟩
  have gop:∀{m:Nat} {o:Oper} {d:Option Tmp} {p:Op} {g:Nat×Bool},(bC f27 19)[m]?=some o->((bC f27 19)[m]?).map (λo=>(o.dst,o.op,o.guard))=some (d,p,some g)->o.op=p/\o.guard=some g:=λ{m o d p g} ho WO=>by
   rw[ho]at WO;simp only[Option.map_some,Option.some.injEq,Prod.mk.injEq]at WO;exact⟨WO.2.1,WO.2.2⟩
  have QK:m<11:=hm;rcases(by omega:m=0\/m=1\/m=2\/m=3\/m=4\/m=5\/m=6\/m=7\/m=8\/m=9\/m=10)with rfl|rfl|rfl|rfl|rfl|rfl|rfl|rfl|rfl|rfl|rfl
  .obtain⟨e1,e2,e3⟩:=oQ ho;exact gW e3 e2 trivial (iE e2 f6 VV) ⟨rfl,fo.refl _⟩
  .obtain⟨e1,e2,e3⟩:=oQ ho;exact gW e3 e2 (xY k_) (kv 2 d_ e2 f6) ⟨rfl,fo.refl _⟩
  .obtain⟨e1,e2,e3⟩:=oQ ho;obtain⟨u,hu,rfl⟩:=get (m:=1) (d:=33) rfl k_;exact gW e3 e2 trivial (an (v:=.int .i64 h) az e2 (aQ hu) ((ak VV 2).trans rfl)).1 ⟨rfl,fo.refl _⟩
  .obtain⟨e1,e2,e3⟩:=oQ ho;obtain⟨u,hu,rfl⟩:=get (m:=2) (d:=34) rfl k_;exact gW e3 e2 (.inl ⟨pl (aQ hu),rfl⟩) (qP e2 (aQ hu) rfl) ⟨by rw[R9];rfl,fo.refl _⟩
  .obtain⟨e1,e2,e3⟩:=oQ ho;obtain⟨u,hu,rfl⟩:=get (m:=3) (d:=35) rfl k_;exact gW e3 e2 trivial (by rw[bT (.inl e2),aQ hu]) ⟨rfl,fo.refl _⟩
  .obtain⟨e2,eg⟩:=gop (d:=some 37) (p:=.fieldAddr 29 (.tmp 6) 3) ho k_;obtain⟨u,hu,rfl⟩:=get (m:=4) (d:=36) rfl k_;exact first eg hu e2 (λ_=>⟨xY k_,kv 3 d_ e2 f6,λ_=>rfl,fo.refl _⟩) λhq=>⟨λhf=>(by rw[hq]at hf;cases hf),fo.refl _⟩
  .obtain⟨e2,eg⟩:=gop (d:=some 38) (p:=.load 3 (.tmp 37)) ho k_;obtain⟨u,hu,rfl⟩:=get (m:=4) (d:=36) rfl k_;obtain⟨u1,V4,h1⟩:=get (m:=5) (d:=37) rfl k_;exact first eg hu e2 (λhq=>⟨trivial,(an (v:=.int .i64 wd) az e2 ((aQ V4).trans (h1 hq)) ((ak VV 3).trans rfl)).1,λ_=>rfl,fo.refl _⟩) λhq=>⟨λhf=>(by rw[hq]at hf;cases hf),fo.refl _⟩
  .obtain⟨e2,eg⟩:=gop (d:=some 39) (p:=.binOp .gtr 3 (.tmp 38) (.const (.int .i64 0)) 3) ho k_;obtain⟨u,hu,rfl⟩:=get (m:=4) (d:=36) rfl k_;obtain⟨u1,V4,h1⟩:=get (m:=6) (d:=38) rfl k_;exact first eg hu e2 (λhq=>⟨.inl ⟨pl ((aQ V4).trans (h1 hq)),rfl⟩,qP e2 ((aQ V4).trans (h1 hq)) rfl,λ_=>by rw[Rh],fo.refl _⟩) λhq=>⟨λhf=>(by rw[hq]at hf;cases hf),fo.refl _⟩
  .obtain⟨e1,e2,e3⟩:=oQ ho;obtain⟨u,hu,rfl⟩:=get (m:=4) (d:=36) rfl k_;obtain⟨u1,V4,h1⟩:=get (m:=7) (d:=39) rfl k_;refine gW e3 e2 trivial (fB e2 (aQ hu)) ⟨?_,fo.refl _⟩;cases hq:c1 with
   |true=>exact(aQ V4).trans (h1 hq)
   |false=>rfl
  .obtain⟨e1,e2,e3⟩:=dS (d:=none) (p:=.store 29 (.tmp 4) (.tmp 32)) ho k_;obtain⟨u,hu,rfl⟩:=get (m:=0) (d:=32) rfl k_;have UL:=setRow_heap w' N cur (aS t c h wd n sh) _ _ Tz;refine .inl ⟨e3 _,.inr ⟨_,DN (aJ (cells:=aS t c h wd n sh) e2 f4 (aQ hu) Tz rq hcur6 (by simp[aS,Value.oneCell'])) e2 trivial,UL,aU w' N _ (Nat.le_refl _),setRow_other w' N (N+1) _ o_,λ_=>⟨_,UL,rfl⟩,λ_=>UL⟩⟩
  .obtain⟨e1,e2,e3⟩:=oQ ho;obtain⟨u,hu,rfl⟩:=get (m:=8) (d:=40) rfl k_;exact gW e3 e2 trivial (by rw[bT (.inr e2),aQ hu]) ⟨rfl,fo.refl _⟩
 .obtain⟨v9,_,h9⟩:=hG.come 9 none rfl trivial;obtain⟨v,hv,V3⟩:=hG.come 10 (some 5) rfl trivial;obtain rfl:=V3;exact next a w' hG.old.1 h9 (((AP hG.defers hG.size hG.fixed).more (hv 5 rfl)).only ⟨rfl,rfl,trivial⟩)
end
def wI(f:Func):Code:=.seq (.seq (rG f 7) (.block 1 (.seq (rG f 8) (.cond (.tmp 18) (.seq (rG f 9) (.seq (rG f 10) (rG f 11))) (.seq (rG f 12) (.cond (.tmp 23) (.seq (rG f 13) (.seq (rG f 14) (rG f 15))) (.seq (rG f 16) (.cond (.tmp 28) (.seq (rG f 17) (rG f 18)) .skip)))))))) (.seq (rD f 19) .ret)
theorem Np:f27.body=some (.seq (rG f27 0) (.seq (rG f27 1) (.seq (.seq (rG f27 2) (.block 0 (.seq (rG f27 3) (.cond (.tmp 11) (rG f27 4) (.seq (rG f27 5) (.cond (.tmp 14) (rG f27 6) .skip)))))) (wI f27)))):=by kernel_rfl
def G6(t c:Int)(w0:World)(e:Ending)(w':World):Prop:=e=.returned (.tuple #[.agg (aS t c (bV t) (cY c) (dN c) (dH c)),.bool (decide (((bV t:Nat):Int)>0)&&decide (((cY c:Nat):Int)>0))])/\Bw w0 w'
def zw(t c:Int)(w0:World)(cs:List Frame)(g:Goroutine)(w':World):Prop:=∃(a:Act) (k:List Item) (bk:Nat) (cells:Array Value) (tt:TypeId) (v:Value),g=cQ {(base 27).atR a k with mode:=.returning} cs/\a.defers=[]/\a.tmps[4]?=some (.pk bk 0)/\w'.heap[bk]?=some (.cells cells tt)/\cells.size=6/\a.tmps[5]?=some v/\G6 t c w0 (.returned (.tuple #[.agg cells,v])) w'
section
variable{t:Int}{k:List Item}
theorem xS(hF:ay [(1,.int .i64 c),(4,.pk w0.heap.size 0),(6,.pk (w0.heap.size+1) 0)] 41 [] a)(hz:w.heap[w0.heap.size]?=some (.cells (aS 0 0 0 0 0 0) 29))(hold:Bw w0 w)(RL:w.heap[w0.heap.size+1]?=some (.cells (aS t c (bV t) 0 0 0) 29)):
 Rn kX (zw t c w0 cs) ((base 27).atR a (.code (wI f27)::k)) cs w:=by
 have hltN:=(Array.getElem?_eq_some_iff.1 hz).1;have fin:∀(a:Act) (w2:World),w2.heap[w0.heap.size+1]?=some (.cells (aS t c (bV t) (cY c) (dN c) (dH c)) 29)->Below (w0.heap.size+1) w w2->ay [(4,.pk w0.heap.size 0),(6,.pk (w0.heap.size+1) 0)] 41 [] a->
  Rn kX (zw t c w0 cs) ((base 27).atR a (.code (.seq (rD f27 19) .ret)::k)) cs w2:=by
  intro a w2 h2 hB hF;refine Rn.plain rfl (M3 rfl rfl h2 ((hB.block _ o_).trans hz) hF λa w3 QW h3 hF=>?_);exact Rn.ends rfl (.inr ⟨_,rfl⟩) (Rn.now ⟨a,_,w0.heap.size,_,29,_,rfl,hF.defers,hF.slot 4 _ rfl,h3,rfl,hF.slot 5 _ rfl,rfl,(hold.trans (hB.mono o_)).trans QW⟩)
 have e8:∀(x y:Int) (h:x=y),(x==y)=true:=λx y h=>by simpa using h
 have e9:∀(x y:Int) (h:x≠y),(x==y)=false:=λx y h=>by simpa using h
 iterate 3 refine a9 hF λa hF=>?_
 refine Rn.plain rfl (Rn.cond _ (hF.g 18) ?_);by_cases c2:c=2
 .rw[e8 _ _ c2];have hF:ay [(4,.pk w0.heap.size 0),(6,.pk (w0.heap.size+1) 0)] 41 [] a:=hF.only ⟨rfl,rfl,trivial⟩;refine Rn.gr ?_;refine h_ hF 20 6 3 2 d_ d_ rfl k_ k_ RL rfl (λa w2 hF h2 RD=>?_) rfl;refine Rn.gr ?_;refine h_ hF 21 6 4 133 d_ d_ rfl k_ k_ h2 rfl (λa w3 hF h3 RF=>?_) rfl;refine Rn.gr ?_;refine h_ hF 22 6 5 6 d_ d_ rfl k_ k_ h3 rfl (λa w4 hF h4 Ry=>?_) rfl;refine Rn.plain rfl (Rn.plain rfl (fin a w4 ?_ (((RD _ (Nat.le_refl _)).trans (RF _ (Nat.le_refl _))).trans (Ry _ (Nat.le_refl _))) hF));subst c2;exact h4
 rw[e9 _ _ c2]
 iterate 2 refine a9 hF λa hF=>?_
 refine Rn.plain rfl (Rn.cond _ (hF.g 23) ?_);by_cases c3:c=3
 .rw[e8 _ _ c3];have hF:ay [(4,.pk w0.heap.size 0),(6,.pk (w0.heap.size+1) 0)] 41 [] a:=hF.only ⟨rfl,rfl,trivial⟩;refine Rn.gr ?_;refine h_ hF 25 6 3 4 d_ d_ rfl k_ k_ RL rfl (λa w2 hF h2 RD=>?_) rfl;refine Rn.gr ?_;refine h_ hF 26 6 4 67 d_ d_ rfl k_ k_ h2 rfl (λa w3 hF h3 RF=>?_) rfl;refine Rn.gr ?_;refine h_ hF 27 6 5 4 d_ d_ rfl k_ k_ h3 rfl (λa w4 hF h4 Ry=>?_) rfl;refine Rn.plain rfl (Rn.plain rfl (fin a w4 ?_ (((RD _ (Nat.le_refl _)).trans (RF _ (Nat.le_refl _))).trans (Ry _ (Nat.le_refl _))) hF));subst c3;exact h4
 rw[e9 _ _ c3]
 iterate 2 refine a9 hF λa hF=>?_
 refine Rn.plain rfl (Rn.cond _ (hF.g 28) ?_);by_cases c4:c=4
 .rw[e8 _ _ c4];have hF:ay [(4,.pk w0.heap.size 0),(6,.pk (w0.heap.size+1) 0)] 41 [] a:=hF.only ⟨rfl,rfl,trivial⟩;refine Rn.gr ?_;refine h_ hF 30 6 3 8 d_ d_ rfl k_ k_ RL rfl (λa w2 hF h2 RD=>?_) rfl;refine Rn.gr ?_;refine h_ hF 31 6 4 34 d_ d_ rfl k_ k_ h2 rfl (λa w3 hF h3 RF=>?_) rfl;refine Rn.plain rfl (Rn.plain rfl (fin a w3 ?_ ((RD _ (Nat.le_refl _)).trans (RF _ (Nat.le_refl _))) hF));subst c4;exact h3
 rw[e9 _ _ c4];refine Rn.plain rfl (Rn.plain rfl (fin a w ?_ (Below.refl _ _) (hF.only ⟨rfl,rfl,trivial⟩)));have hw:cY c=0/\dN c=0/\dH c=0:=by simp[cY,dN,dH,c2,c3,c4]
 rw[hw.1,hw.2.1,hw.2.2];exact RL
end
theorem rn(t c:Int)(w:World):Cl kX 27 #[.int .i64 t,.int .i64 c] w (G6 t c w):=by
 refine ff (t:=4) (u:=5) (ty:=29) (n:=6) func27 rfl underlying29 rfl rq λcs=>?_;show Rn _ (zw t c w cs) _ cs w;refine bm (N:=41) func27 Np λa hF=>?_;have e8:∀(x y:Int) (h:x=y),(x==y)=true:=λx y h=>by simpa using h
 have e9:∀(x y:Int) (h:x≠y),(x==y)=false:=λx y h=>by simpa using h
 refine af hF (λo ho=>pO ho) λa hF=>?_
 iterate 3 refine a9 hF λa hF=>?_
 refine af hF (λo ho=>Hl ho (hF.g 7) (hF.g 8)) λa hF=>?_;refine af hF (λo ho=>pO ho) λa hF=>?_;rw[ao]at hF;have h6:=aK (w.alloc (.cells (aS 0 0 0 0 0 0) 29)) (.cells (aS 0 0 0 0 0 0) 29);rw[ao]at h6;have hz:=(bp (w.alloc (.cells (aS 0 0 0 0 0 0) 29)) (.cells (aS 0 0 0 0 0 0) 29) (b:=w.heap.size) (by rw[ao];omega)).trans (aK w _);have hold:Bw w ((w.alloc (.cells (aS 0 0 0 0 0 0) 29)).alloc (.cells (aS 0 0 0 0 0 0) 29)):=ab (aD w _) (by rw[ao];omega) (aD _ _);revert h6 hz hold;generalize (w.alloc (.cells (aS 0 0 0 0 0 0) 29)).alloc (.cells (aS 0 0 0 0 0 0) 29)=w1;intro h6 hz hold;refine aM hF (λo ho=>aJ (cells:=aS t c 0 0 0 0) ho (hF.g 6) (hF.g 9) h6 rq rfl (by simp[aS,Value.oneCell'])) λa hF=>?_;have Ws:=setRow_heap w1 _ _ (aS t c 0 0 0 0) _ _ h6;have Uu:=(setRow_other w1 (w.heap.size+1) w.heap.size (aS t c 0 0 0 0) o_).trans hz;have U4:Bw w (w1.setRow (w.heap.size+1) (aS t c 0 0 0 0)):=hold.trans (aU _ _ _ o_);revert Ws Uu U4;generalize w1.setRow (w.heap.size+1) (aS t c 0 0 0 0)=w2;intro Ws Uu U4;have QK:=(Array.getElem?_eq_some_iff.1 Ws).1;refine a9 hF λa hF=>?_
 iterate 2 refine a9 hF λa hF=>?_
 refine Rn.plain rfl (Rn.cond _ (hF.g 11) ?_);by_cases c5:t=5
 .rw[e8 _ _ c5];have hF:ay [(1,.int .i64 c),(4,.pk w.heap.size 0),(6,.pk (w.heap.size+1) 0)] 41 [] a:=hF.only ⟨rfl,rfl,rfl,trivial⟩;refine Rn.gr ?_;refine h_ hF 13 6 2 5 d_ d_ rfl k_ k_ Ws rfl (λa w3 hF h3 RF=>?_) rfl;have QW:=RF (w.heap.size+1) (Nat.le_refl _);refine Rn.plain rfl (Rn.plain rfl (xS hF ((QW.block _ o_).trans Uu) (U4.trans (QW.mono o_)) ?_));subst c5;exact h3
 rw[e9 _ _ c5]
 iterate 2 refine a9 hF λa hF=>?_
 refine Rn.plain rfl (Rn.cond _ (hF.g 14) ?_);by_cases c6:t=226
 .rw[e8 _ _ c6];have hF:ay [(1,.int .i64 c),(4,.pk w.heap.size 0),(6,.pk (w.heap.size+1) 0)] 41 [] a:=hF.only ⟨rfl,rfl,rfl,trivial⟩;refine Rn.gr ?_;refine h_ hF 16 6 2 2 d_ d_ rfl k_ k_ Ws rfl (λa w3 hF h3 RF=>?_) rfl;have QW:=RF (w.heap.size+1) (Nat.le_refl _);refine Rn.plain rfl (Rn.plain rfl (xS hF ((QW.block _ o_).trans Uu) (U4.trans (QW.mono o_)) ?_));subst c6;exact h3
 rw[e9 _ _ c6];refine Rn.plain rfl (Rn.plain rfl (xS (hF.only ⟨rfl,rfl,rfl,trivial⟩) Uu U4 ?_));have hH:bV t=0:=by simp[bV,c5,c6]
 rw[hH];exact Ws

theorem dM(s:ByteArray)(a b:Nat):s.extract a b=⟨(bO s.data.toList a b).toArray⟩:=by
 obtain⟨⟨l⟩⟩:=s;apply ByteArray.ext;simp[bO,List.drop_take,List.extract]
theorem mQ(s:ByteArray)(a b:Nat):cM (bO s.data.toList a b)=bc s a b:=by unfold bc;rw[dM]
theorem vO:∀(n:Nat) (l k:List UInt8),l.length=n->k.length=n->cM l=cM k->l=k
 |0,l,k,h1,h2,_=>by rw[List.eq_nil_of_length_eq_zero h1,List.eq_nil_of_length_eq_zero h2]
 |n+1,l,k,h1,h2,h=>by
  rcases List.eq_nil_or_concat l with rfl|⟨l',x,rfl⟩
  .simp at h1
  rcases List.eq_nil_or_concat k with rfl|⟨k',y,rfl⟩
  .simp at h2
  simp only[List.concat_eq_append,List.length_append,List.length_singleton]at h1 h2⊢;simp only[List.concat_eq_append,ly]at h;have hx:=x.toNat_lt;have hy:=y.toNat_lt;have e1:cM l'=cM k':=by omega
  have e2:x.toNat=y.toNat:=by omega
  rw[vO n l' k' o_ o_ e1,UInt8.toNat_inj.1 e2]
theorem Af{a b:ByteArray}{i' j':Nat}(h1:(a.extract i j).size=4)(h2:(b.extract i' j').size=4):bc a i j=bc b i' j'↔(a.extract i j).data.toList=(b.extract i' j').data.toList:=by
 constructor
 .intro h;exact vO 4 _ _ (by rw[Array.length_toList];exact h1) (by rw[Array.length_toList];exact h2) h
 .intro h;unfold bc;rw[h]
theorem jV(s:ByteArray)(a b:Nat):(s.extract a b).data.toList=bO s.data.toList a b:=by rw[dM]
theorem wN{a b:ByteArray}(h:a.data.toList=b.data.toList):a=b:=by
 obtain⟨⟨l⟩⟩:=a;obtain⟨⟨m⟩⟩:=b;have h:l=m:=h;rw[h]
theorem sK(p:ByteArray):∀c,(ju p c).data.toList=p.data.toList.drop (32*c)
 |0=>rfl
 |c+1=>by
  have ih:=sK p c;rw[ju,jV,bO,ih];have hs:(ju p c).size=(p.data.toList.drop (32*c)).length:=by rw[←ih];simp
  rw[hs,List.take_length,List.drop_drop]
  congr 1
theorem BC(p:ByteArray)(c:Nat):(ju p c).extract 0 32=p.extract (32*c) (32*c+32):=by
 apply wN;rw[jV,jV,sK,bO,bO,List.drop_zero,←List.take_drop]
theorem sS(KS:List Int)(id path:ByteArray)(lf:Nat)(x:ByteArray):∀c,q_ KS id path lf x c=j2 KS id path lf x c
 |0=>rfl
 |c+1=>by rw[q_,j2,BC,sS KS id path lf x c]
theorem As(KS:List Int)(id:ByteArray)(q i:Nat):∀(m j:Nat) (y:ByteArray),(xi KS id q i m j y).data.toList=jX KS (id.data.toList++bX q 4++bX i 2) m j y.data.toList
 |0,_,_=>rfl
 |m+1,j,y=>by
  rw[xi,As KS id q i m (j+1) _,jX]
  congr 1
theorem Az(KS:List Int)(s:eD)(q wd:Nat)(dg:Nat->Nat)(hq:s.q=q)(Sv:s.width=wd):∀n,(Cn KS s.id s.links q (cj wd) dg n).data.toList=jE KS s (λc=>(dg c:Nat)) n
 |0=>by simp[Cn,jE]
 |n+1=>by
  have ih:=Az KS s q wd dg hq Sv n;have h1:(Cn KS s.id s.links q (cj wd) dg (n+1)).data.toList=(Cn KS s.id s.links q (cj wd) dg n).data.toList++(xi KS s.id q n (cj wd- dg n) (dg n) (s.links.extract (32*n) (32*n+32))).data.toList:=by simp[Cn]
  have h2:jE KS s (λc=>(dg c:Nat)) (n+1)=jE KS s (λc=>(dg c:Nat)) n++(pp KS s n ((dg n:Nat):Int) (s.links.extract (n*32) ((n+1)*32))).data.toList:=by simp[jE,List.range_succ]
  rw[h1,h2,ih,As]
  congr 1
  simp only[pp,mI,hq,Sv,Int.toNat_natCast];rw[show n*32=32*n from by omega,show(n+1)*32=32*n+32 from by omega]
theorem By(KS:List Int)(s:eD)(h wd sh n q:Nat)(msg:ByteArray)(hq:s.q=q)(Sv:s.width=wd):rM KS s.id s.salt msg s.links s.path h wd sh n q=vt KS s h wd sh n q msg:=by
 unfold rM vt;rw[sS];have Xi:Cn KS s.id s.links q (cj wd) (λc=>cy (ik (iD KS [s.id,ob q 4,ob 33153 2,s.salt,msg]).data.toList wd sh) wd c) n=PK KS s wd sh n q msg:=by
  apply wN;rw[Az KS s q wd _ hq Sv n];rfl
 rw[Xi];rfl

theorem IW{cv:Array Value}{key rt:ByteArray}{q T h:Nat}{t:Int}(Sg:key.size=56)(hT:T+4<=sig.size)(hT4:40<=T)(hTs:T<1000000)(hCm:∀w',Bw w w'->Cl kX 38 #[.agg cv,.agg (aS t c h wd n sh),.string (key.extract 8 24),.int .i64 q,.string (sig.extract 8 40),.string msg,.string (sig.extract 40 T),.string (sig.extract (T+4) sig.size)] w' λe Rb=>e=.returned (.string rt)/\Bw w' Rb)(hC:iX KS cv w)(Rx:w.heap[b4]?=some (.cells cv 26))(RL:w.heap[b9]?=some (.cells (aS t c h wd n sh) 29))
 (hF:ay [(1,.string key),(2,.string msg),(3,.string sig),(4,.pk b4 0),(9,.pk b9 0),(11,.int .i64 q),(12,.int .i64 T)] 85 [] a)
 (next:∀a w',(Bw w w'/\ay [(13,.string rt),(1,.string key),(2,.string msg),(3,.string sig),(4,.pk b4 0),(9,.pk b9 0),(11,.int .i64 q),(12,.int .i64 T)] 85 [] a)->Rn kX Goal (fr.atR a K) cs w'):
 Rn kX Goal (fr.atR a (.code (rD f15 12)::K)) cs w:=by
 refine bY hF ?_
 iterate 3 refine Gx.q ?_
 refine Gx.q ?_ (y:=λo a w ho z=>(dQ (m:=8) (n:=24) ho gx rfl rfl o_ o_).1)
 iterate 2 refine Gx.q ?_
 refine Gx.q ?_ (y:=λo a w ho z=>(dQ (m:=8) (n:=40) ho gx rfl rfl o_ o_).1)
 iterate 3 refine Gx.q ?_
 refine Gx.q ?_ (y:=λo a w ho z=>(dQ (m:=40) (n:=T) ho gx rfl gx o_ o_).1)
 iterate 2 refine Gx.q ?_
 refine Gx.q ?_ (y:=λo a w ho z=>aI (n:=4) ho gx rfl o_);refine Gx.q ?_ (y:=λo a w ho z=>kY (n:=T+4) ho gx gx hT);refine Gx.k func38 (λw b _=>hCm w b) ?_;refine Gx.q ?_;exact Gx.e λa w' hF hb _=>next a w' ⟨hb,(hF.only ⟨rfl,rfl,rfl,rfl,rfl,rfl,rfl,rfl,trivial⟩)⟩
section
variable{W:World}{Q:Act->WP}{M:List (Nat×WP)}{xs:Array Operand}{ats:Array TypeId}
theorem Kf{s:ByteArray}(i k:Nat)(hs:s.size<=1125899906842624)(hi:i+k<=s.size)(next:Gx kX ops W N n df Q (m+1) ((d,.int .i64 (bc s i (i+k)))::F) M)(h:Is ops m d (.call {callee:=.value (.func 37),args:=xs,argTypes:=ats}) gd:=by rfl)(hw:gV ops F gd=some true:=by rfl)(RQ:rU ops (kD ops n m) gd=true:=by kernel_rfl)(ha:wu F xs.toList=some [.string s,.int .i64 i,.int .i64 k]:=by rfl)(hk:xs.toList.all (vL (kD ops n m))=true:=by kernel_rfl)(hn:k<=4:=by decide):Gx kX ops W N n df Q m F M:=
 Gx.k func37 (λw _ _=>(jv s i k w hn hi hs).mono λ_ _ h=>⟨by rw[←mQ];exact h.1,h.2▸Below.refl _ _⟩) next h hw RQ ha hk
end
theorem IX{key:ByteArray}{h T:Nat}{q t:Int}{c1 n1 n2:Bool}(U9:H2=2^h)(hh8:h<=8)(Wt:H2<=256)(Ro:sig.size<=1125899906842624)(hT:T+4<=sig.size)(hs8:8<=sig.size)(R9:c1=decide (q≥(H2:Int)))(SA:n1=(bc sig 4 8 !=c))(RV:n2=(bc sig T (T+4) !=t))(RL:w.heap[b9]?=some (.cells (aS t c h wd n sh) 29))
 (hF:ay [(1,.string key),(2,.string msg),(3,.string sig),(4,.pk b4 0),(9,.pk b9 0),(11,.int .i64 q),(12,.int .i64 T)] 85 [] a)
 (next:∀a w',(Bw w w'/\ay [(64,.bool (c1||n1||n2)),(1,.string key),(2,.string msg),(3,.string sig),(4,.pk b4 0),(9,.pk b9 0),(11,.int .i64 q),(12,.int .i64 T)] 85 [] a)->Rn kX Goal (fr.atR a K) cs w'):
 Rn kX Goal (fr.atR a (.code (rD f15 10)::K)) cs w:=by
 have hp:(1:Int)*2^h=(H2:Int):=by rw[Int.one_mul,U9,Int.natCast_pow];rfl
 refine bY hF ?_
 iterate 3 refine Gx.q ?_
 refine Gx.q ?_ (y:=λo a w ho z=>(gk (m:=1) (k:=h) ho rfl gx o_ (by rw[hp];omega)).trans (by rw[hp]));refine Gx.q ?_ (v:=.bool c1) (y:=λo a w ho z=>R9▸xH ho gx gx);refine Gx.q ?_;cases c1 with
 |true=>
  iterate 5 refine Gx.s ?_
  refine Gx.q ?_ (v:=.bool true) (y:=λo a w ho z=>fB ho gx);refine Gx.q ?_
  iterate 6 refine Gx.s ?_
  refine Gx.q ?_ (v:=.bool true) (y:=λo a w ho z=>fB ho gx);exact Gx.e λa w' hF hb _=>next a w' ⟨hb,(hF.only ⟨rfl,rfl,rfl,rfl,rfl,rfl,rfl,rfl,trivial⟩)⟩
 |false=>
  refine Gx.q ?_;refine Kf 4 4 Ro hs8 ?_
  iterate 2 refine Gx.q ?_
  refine Gx.q ?_ (v:=.bool n1) (y:=λo a w ho z=>SA▸lU ho gx gx)
  iterate 2 refine Gx.q ?_
  cases n1 with
  |true=>
   iterate 6 refine Gx.s ?_
   refine Gx.q ?_ (v:=.bool true) (y:=λo a w ho z=>fB ho gx);exact Gx.e λa w' hF hb _=>next a w' ⟨hb,(hF.only ⟨rfl,rfl,rfl,rfl,rfl,rfl,rfl,rfl,trivial⟩)⟩
  |false=>
   iterate 2 refine Gx.q ?_
   refine Kf T 4 Ro hT ?_
   iterate 2 refine Gx.q ?_
   refine Gx.q ?_ (v:=.bool n2) (y:=λo a w ho z=>RV▸lU ho gx gx);refine Gx.q ?_;exact Gx.e λa w' hF hb _=>next a w' ⟨hb,(hF.only ⟨rfl,rfl,rfl,rfl,rfl,rfl,rfl,rfl,trivial⟩)⟩

theorem Nr:f15.body=some (.seq (rG f15 0) (.seq (.seq (rG f15 1) (.cond (.tmp 16) (.seq (rG f15 2) .ret) .skip)) (.seq (rG f15 3) (.seq (.seq (rG f15 4) (.cond (.tmp 26) (.seq (rG f15 5) .ret) .skip))
 (.seq (.seq (rG f15 6) (.cond (.tmp 38) (.seq (rG f15 7) .ret) .skip)) (.seq (rG f15 8) (.seq (rG f15 9) (.seq (.seq (rD f15 10) (.cond (.tmp 64) (.seq (rG f15 11) .ret) .skip))
 (.seq (rD f15 12) (.seq (.seq (rG f15 13) (.cond (.tmp 84) (.seq (rG f15 14) .ret) .skip)) (.seq (rG f15 15) .ret))))))))))):=by kernel_rfl
theorem Ak{key:ByteArray}(W7:key.size=56):(decide (((hK key:Nat):Int)>0)&&decide (((wK key:Nat):Int)>0))=true↔fF key:=by
 unfold fF hK wK;simp only[Bool.and_eq_true,decide_eq_true_eq];constructor
 .rintro⟨h1,h2⟩;exact⟨W7,by omega,by omega⟩
 .rintro⟨_,h1,h2⟩;exact⟨by omega,by omega⟩
theorem uZ(QL:KS.length=64)(QX:ip KS){cv:Array Value}(key msg sig:ByteArray)(hm:msg.size<=281474976706560)(hk:key.size<=1125899906842624)(hs:sig.size<=1125899906842624)(w:World)(hC:iX KS cv w):
 Cl kX 15 #[.agg cv,.string key,.string msg,.string sig] w λe w'=>∃c,e=.returned (.int .i64 c)/\pC KS key msg sig c/\Bw w w':=by
 refine av (N:=85) func15 Nr λcs a hF=>?_;refine cW hF λw1 a QM h4 _ hF=>?_;have TN:=hC.mono QM;refine a9 hF λa hF=>?_;have out:∀(id:Nat) (c:Int) (a:Act) (w':World) (F:List (Nat×Value)) (k:List Item),pC KS key msg sig c->Bw w w'->ay F 85 [] a->List.range (bC f15 id).size=[0]->((bC f15 id)[0]?).map (λo=>(o.dst,o.op,o.guard))=some (some 8,.assign (.const (.int .i64 c)),none)->
  Rn kX (λg w'=>∃(a:Act) (k:List Item) (v:Value),g=cQ {(base 15).atR a k with mode:=.returning} cs/\a.defers=[]/\a.tmps[8]?=some v/\∃c,Ending.returned v=Ending.returned (.int .i64 c)/\pC KS key msg sig c/\Bw w w') ((base 15).atR a (.code (.seq (rG f15 id) .ret)::k)) cs w':=by
  intro id c a w' F k hver hB hF hL QH;refine Rn.plain rfl (Rn.region hL ?_);refine uN hF 8 (.int .i64 c) d_ QH λa hF=>?_;exact Rn.plain rfl (Rn.ends rfl (.inr ⟨_,rfl⟩) (Rn.now ⟨a,_,_,rfl,hF.defers,hF.slot 8 _ (by simp[List.lookup]),c,rfl,hver,hB⟩))
 iterate 3 refine a9 hF λa hF=>?_
 refine Rn.plain rfl (Rn.cond _ (hF.g 16) ?_);by_cases W7:key.size=56
 .rw[show((key.size:Int) !=56)=false from by simp;omega];refine a9 hF λa hF=>?_;refine bf hF func37 (R:=λv w'=>v=.int .i64 (bc key 0 4)/\w'=w1) ((jv key 0 4 w1 d_ o_ hk).mono λe w' h=>⟨_,h.1,by rw[mQ],h.2⟩) λv w2 hv a hF=>?_;obtain⟨rfl,rfl⟩:=hv;refine a9 hF λa hF=>?_;refine bf hF func37 (R:=λv w'=>v=.int .i64 (bc key 4 8)/\w'=w2) ((jv key 4 4 w2 d_ o_ hk).mono λe w' h=>⟨_,h.1,by rw[mQ],h.2⟩) λv w3 hv a hF=>?_;obtain⟨rfl,rfl⟩:=hv;refine bH hF func27 ((rn (bc key 0 4) (bc key 4 8) w3)) λw4 R0 a hF=>?_
  iterate 3 refine a9 hF λa hF=>?_
  refine bl hF (λo ho=>pO ho) λw5 a Rz h9 _ hF=>?_;refine aM hF (λo ho=>aJ (cells:=aS (bc key 0 4) (bc key 4 8) (hK key) (wK key) (nK key) (zJ key)) ho (hF.g 9) (hF.g 23) h9 rq rfl (by simp[aS,Value.oneCell'])) λa hF=>?_;have RL:=setRow_heap w5 w4.heap.size _ (aS (bc key 0 4) (bc key 4 8) (hK key) (wK key) (nK key) (zJ key)) _ _ h9;have VR:=(Array.getElem?_eq_some_iff.1 h4).1;have Uk:=R0.size;have Rx:(w5.setRow w4.heap.size (aS (bc key 0 4) (bc key 4 8) (hK key) (wK key) (nK key) (zJ key))).heap[w.heap.size]?=some (.cells cv 26):=(setRow_other w5 _ _ _ o_).trans ((Rz.block _ o_).trans ((R0.block _ VR).trans h4));have UF:Bw w3 (w5.setRow w4.heap.size (aS (bc key 0 4) (bc key 4 8) (hK key) (wK key) (nK key) (zJ key))):=(ab R0 R0.size Rz).trans (aU _ _ _ R0.size);revert RL Rx UF;generalize w5.setRow w4.heap.size (aS (bc key 0 4) (bc key 4 8) (hK key) (wK key) (nK key) (zJ key))=w6;intro RL Rx UF;have SD:Bw w w6:=ab QM QM.size UF;have hC6:=hC.mono SD;clear h9 Rz R0 h4 UF TN;refine a9 hF λa hF=>?_;have hF:ay [(10,.bool (decide (((hK key:Nat):Int)>0)&&decide (((wK key:Nat):Int)>0))),(9,.pk w4.heap.size 0),(1,.string key),(2,.string msg),(3,.string sig),(4,.pk w.heap.size 0)] 85 [] a:=hF.only ⟨rfl,rfl,rfl,rfl,rfl,rfl,trivial⟩
  iterate 2 refine a9 hF λa hF=>?_
  refine Rn.plain rfl (Rn.cond _ (hF.g 26) ?_);by_cases Sr:fF key
  .rw[(Ak W7).2 Sr];obtain⟨hh,hkk⟩:=kinds Sr;refine Rn.gr ?_
   iterate 12 refine a9 hF λa hF=>?_
   refine Rn.plain rfl (Rn.cond _ (hF.g 38) ?_);by_cases QY:sig.size=44+32*nK key+32*hK key
   .rw[show((sig.size:Int) !=40+32*((nK key:Nat):Int)+4+32*((hK key:Nat):Int))=false from by simp;omega];refine a9 hF λa hF=>?_;refine bf hF func37 (R:=λv w'=>v=.int .i64 (bc sig 0 4)/\w'=w6) ((jv sig 0 4 w6 d_ o_ hs).mono λe w' h=>⟨_,h.1,by rw[mQ],h.2⟩) λv w7 hv a hF=>?_;obtain⟨rfl,rfl⟩:=hv
    iterate 5 refine a9 hF λa hF=>?_
    rw[show(40:Int)+32*((nK key:Nat):Int)=((40+32*nK key:Nat):Int)from by omega]at hF;refine a9 hF λa hF=>?_;refine Rn.plain rfl (Rn.plain rfl (Rn.plain rfl ?_));have Wt:2^hK key<=256:=Nat.le_trans (Nat.pow_le_pow_right d_ (show hK key<=8 by omega)) d_;refine IX (H2:=2^hK key) (T:=40+32*nK key) (q:=bc sig 0 4) rfl o_ Wt hs o_ o_ rfl rfl rfl RL (hF.only ⟨rfl,rfl,rfl,rfl,rfl,rfl,rfl,trivial⟩) λa w8 ⟨VZ,hF⟩=>?_;have hB8:Bw w w8:=ab SD SD.size VZ;have hbox8:=bk VZ Rx;have hkd8:=bk VZ RL;have hC8:=hC.mono hB8;refine Rn.cond _ (hF.g 64) ?_;have e4:∀(x:ByteArray) (i:Nat),i+4<=x.size->(x.extract i (i+4)).size=4:=λx i h=>by rw[ByteArray.size_extract];omega
    have iff1:bc sig 4 8=bc key 4 8↔(sig.extract 4 8).data.toList=(key.extract 4 8).data.toList:=Af (e4 sig 4 o_) (e4 key 4 o_);have iff2:bc sig (40+32*nK key) (40+32*nK key+4)=bc key 0 4↔(sig.extract (40+32*nK key) (40+32*nK key+4)).data.toList=(key.extract 0 4).data.toList:=Af (e4 sig _ o_) (e4 key 0 o_);by_cases Tv:i_ (gE key) (hK key) (nK key) sig
    .have e:(decide (bc sig 0 4≥((2^hK key:Nat):Int))||(bc sig 4 8 !=bc key 4 8)||(bc sig (40+32*nK key) (40+32*nK key+4) !=bc key 0 4))=false:=by
      obtain⟨_,h1,h2,h3⟩:=Tv;rw[show 44+32*nK key=40+32*nK key+4 from by omega]at h3;have h1':¬bc sig 0 4≥((2^hK key:Nat):Int):=(by rw[Int.natCast_pow];exact Int.not_le.2 h1);rw[decide_eq_false h1',iff1.2 h2,iff2.2 h3];simp
     rw[e];have f:=F0 Sr Tv;have h0:0<=bc sig 0 4:=(i4 (sig.extract 0 4).data.toList 4 (by simp;omega)).1;have VK:((bc sig 0 4).toNat:Int)=bc sig 0 4:=Int.toNat_of_nonneg h0;have hleaf:=f.leaf;rw[←VK]at hF;refine Rn.plain rfl (Rn.plain rfl ?_);have RR:(key.extract 8 24).size<=16:=(by rw[ByteArray.size_extract];omega);have hsa:(sig.extract 8 40).size<=32:=(by rw[ByteArray.size_extract];omega);have hroot:rM KS (key.extract 8 24) (sig.extract 8 40) msg (sig.extract 40 (40+32*nK key)) (sig.extract (40+32*nK key+4) sig.size) (hK key) (wK key) (zJ key) (nK key) (bc sig 0 4).toNat=j_ KS key msg sig:=by
      have:=By KS (rX (gE key) (nK key) sig) (hK key) (wK key) (zJ key) (nK key) (bc sig 0 4).toNat msg VK.symm rfl;rw[show 40+32*nK key+4=44+32*nK key from by omega];exact this
     refine IW (KS:=KS) (rt:=j_ KS key msg sig) W7 o_ o_ o_ (λw' Sk=>?_) hC8 hbox8 hkd8 (hF.only ⟨rfl,rfl,rfl,rfl,rfl,rfl,rfl,trivial⟩) λa w9 ⟨Xp,hF⟩=>?_
     .have:=Ct QL QX (key.extract 8 24) (sig.extract 8 40) msg (sig.extract 40 (40+32*nK key)) (sig.extract (40+32*nK key+4) sig.size) (bc key 0 4) (bc key 4 8) (hK key) (wK key) (zJ key) (nK key) (bc sig 0 4).toNat f.wid f.shift8 f.one f.most o_ o_ o_ o_ (by rw[ByteArray.size_extract];omega) (by rw[ByteArray.size_extract];omega) w' (hC8.mono Sk);rw[hroot]at this;exact this
     have hB9:Bw w w9:=ab hB8 hB8.size Xp
     iterate 2 refine a9 hF λa hF=>?_
     refine af hF (λo ho=>kY (n:=24) ho (hF.g 82) rfl o_) λa hF=>?_;refine af hF (λo ho=>kZ ho (hF.g 81) (hF.g 83)) λa hF=>?_;refine Rn.plain rfl (Rn.cond _ (hF.g 84) ?_);by_cases hr:(j_ KS key msg sig).data.toList=(key.extract 24 key.size).data.toList
     .rw[show((j_ KS key msg sig).data.toList !=(key.extract 24 key.size).data.toList)=false from by rw[bne_eq_false_iff_eq];exact hr];refine Rn.plain rfl ?_;exact out 15 0 a w9 _ _ (.inr (.inr (.inr ⟨Sr,Tv,hr,rfl⟩))) hB9 hF rfl k_
     .rw[show((j_ KS key msg sig).data.toList !=(key.extract 24 key.size).data.toList)=true from by rw[bne_iff_ne];exact hr];exact out 14 10 a w9 _ _ (.inr (.inr (.inl ⟨Sr,Tv,hr,rfl⟩))) hB9 hF rfl k_
    .have e:(decide (bc sig 0 4≥((2^hK key:Nat):Int))||(bc sig 4 8 !=bc key 4 8)||(bc sig (40+32*nK key) (40+32*nK key+4) !=bc key 0 4))=true:=by
      refine Classical.byContradiction λQQ=>Tv ?_;rw[Bool.not_eq_true,Bool.or_eq_false_iff,Bool.or_eq_false_iff,decide_eq_false_iff_not,bne_eq_false_iff_eq,bne_eq_false_iff_eq]at QQ;obtain⟨⟨h1,h2⟩,h3⟩:=QQ;refine⟨QY,?_,iff1.1 h2,?_⟩
      .rw[Int.natCast_pow]at h1;exact Int.not_le.1 h1
      .rw[show 44+32*nK key=40+32*nK key+4 from by omega];exact iff2.1 h3
     rw[e];exact out 11 10 a w8 _ _ (.inr (.inl ⟨Sr,Tv,rfl⟩)) hB8 hF rfl k_
   .rw[show((sig.size:Int) !=40+32*((nK key:Nat):Int)+4+32*((hK key:Nat):Int))=true from by simp;omega];exact out 7 10 a w6 _ _ (.inr (.inl ⟨Sr,λh=>QY h.1,rfl⟩)) SD hF rfl k_
  .rw[show(decide (((hK key:Nat):Int)>0)&&decide (((wK key:Nat):Int)>0))=false from Bool.not_eq_true _▸λh=>Sr ((Ak W7).1 h)];exact out 5 9 a w6 _ _ (.inl ⟨Sr,rfl⟩) SD hF rfl k_
 .rw[show((key.size:Int) !=56)=true from by simp;omega];exact out 2 9 a w1 _ _ (.inl ⟨λh=>W7 h.1,rfl⟩) QM hF rfl k_

theorem tC{key:ByteArray}{d:Int}(h:pC KS key msg sig c)(h':pC KS key msg sig d):c=d:=by
 rcases h with⟨a1,rfl⟩|⟨a1,a2,rfl⟩|⟨a1,a2,a3,rfl⟩|⟨a1,a2,a3,rfl⟩<;>rcases h' with⟨b1,rfl⟩|⟨b1,b2,rfl⟩|⟨b1,b2,b3,rfl⟩|⟨b1,b2,b3,rfl⟩<;>first|rfl|exact absurd ‹fF key› ‹¬fF key›|exact absurd a2 b2|exact absurd b2 a2|exact absurd a3 b3|exact absurd b3 a3
section
variable{o:Oper}{y:Operand}
theorem HK{t u:TypeId}{m n:Int}(QH:o.op=.binOp .eql t x y u)(ht:t=36)(hx:ev x=.int .i64 m)(hy:ev y=.int .i64 n):(execOp ev o).run prog w=.ok (.value (.bool (m==n))) w:=by
 subst ht;simp[execOp,QH,hx,hy,go_sem]
end

structure Sc where
 t:Nat
 c:Nat
 h:Nat
 wd:Nat
 n:Nat
 sh:Nat
 id:ByteArray
 q:Nat
 seed:ByteArray
 path:ByteArray
 root:ByteArray
def Sc.cells(s:Sc):Array Value:=#[.int .i64 s.t,.int .i64 s.c,.int .i64 s.h,.int .i64 s.wd,.int .i64 s.n,.int .i64 s.sh,.string s.id,.int .i64 s.q,.string s.seed,.string s.path,.string s.root]
def CI:ByteArray:=⟨#[255]⟩
theorem oa:CI.size=1:=rfl
def Sc.kind(s:Sc):Array Value:=aS s.t s.c s.h s.wd s.n s.sh
theorem lA:(prog.info? 31).map (·.size)=some 11:=by kernel_rfl
section
variable{o:Oper}{y z u:Operand}{s:Sc}
theorem Od(QH:o.op=.fieldAddr 31 x 0)(hx:ev x=.pk b 0):(execOp ev o).run prog w=.ok (.value (.pk b 0)) w:=by
 have e:execOp ev o=(do pure (.value (←Instr.fieldAt 31 (.pk b 0) 0))):=by simp only[execOp,QH,hx]
 have h2:(do pure (.value (←Instr.fieldAt 31 (.pk b 0) 0)):Sem Next).run prog w=.ok (.value (.pk b 0)) w:=by kernel_rfl
 rw[e,h2]
theorem Oc(QH:o.op=.fieldAddr 31 x 1)(hx:ev x=.pk b 0):(execOp ev o).run prog w=.ok (.value (.pk b 6)) w:=by
 have e:execOp ev o=(do pure (.value (←Instr.fieldAt 31 (.pk b 0) 1))):=by simp only[execOp,QH,hx]
 have h2:(do pure (.value (←Instr.fieldAt 31 (.pk b 0) 1)):Sem Next).run prog w=.ok (.value (.pk b 6)) w:=by kernel_rfl
 rw[e,h2]
theorem Ob(QH:o.op=.fieldAddr 31 x 2)(hx:ev x=.pk b 0):(execOp ev o).run prog w=.ok (.value (.pk b 7)) w:=by
 have e:execOp ev o=(do pure (.value (←Instr.fieldAt 31 (.pk b 0) 2))):=by simp only[execOp,QH,hx]
 have h2:(do pure (.value (←Instr.fieldAt 31 (.pk b 0) 2)):Sem Next).run prog w=.ok (.value (.pk b 7)) w:=by kernel_rfl
 rw[e,h2]
theorem Oa(QH:o.op=.fieldAddr 31 x 3)(hx:ev x=.pk b 0):(execOp ev o).run prog w=.ok (.value (.pk b 8)) w:=by
 have e:execOp ev o=(do pure (.value (←Instr.fieldAt 31 (.pk b 0) 3))):=by simp only[execOp,QH,hx]
 have h2:(do pure (.value (←Instr.fieldAt 31 (.pk b 0) 3)):Sem Next).run prog w=.ok (.value (.pk b 8)) w:=by kernel_rfl
 rw[e,h2]
theorem JQ(QH:o.op=.fieldAddr 31 x 4)(hx:ev x=.pk b 0):(execOp ev o).run prog w=.ok (.value (.pk b 9)) w:=by
 have e:execOp ev o=(do pure (.value (←Instr.fieldAt 31 (.pk b 0) 4))):=by simp only[execOp,QH,hx]
 have h2:(do pure (.value (←Instr.fieldAt 31 (.pk b 0) 4)):Sem Next).run prog w=.ok (.value (.pk b 9)) w:=by kernel_rfl
 rw[e,h2]
theorem DI(QH:o.op=.fieldAddr 31 x 5)(hx:ev x=.pk b 0):(execOp ev o).run prog w=.ok (.value (.pk b 10)) w:=by
 have e:execOp ev o=(do pure (.value (←Instr.fieldAt 31 (.pk b 0) 5))):=by simp only[execOp,QH,hx]
 have h2:(do pure (.value (←Instr.fieldAt 31 (.pk b 0) 5)):Sem Next).run prog w=.ok (.value (.pk b 10)) w:=by kernel_rfl
 rw[e,h2]
theorem mx(QH:o.op=.load 31 x)(hx:ev x=.pk b 0)(h:w.heap[b]?=some (.cells s.cells 31)):(execOp ev o).run prog w=.ok (.value (.agg s.cells)) w:=by
 have h1:(isAgg 31).run prog w=.ok true w:=by kernel_rfl
 have hc:=ak h;simp[execOp,QH,hx,Instr.loadAt,loadVar,h1,loadCells,loadCellsFrom,Addr.add,hc,Sc.cells,go_sem]
theorem DG(QH:o.op=.load 29 x)(hx:ev x=.pk b 0)(h:w.heap[b]?=some (.cells s.cells 31)):(execOp ev o).run prog w=.ok (.value (.agg s.kind)) w:=by
 have h1:(isAgg 29).run prog w=.ok true w:=by kernel_rfl
 have hc:=ak h;simp[execOp,QH,hx,Instr.loadAt,loadVar,h1,loadCells,loadCellsFrom,Addr.add,hc,Sc.cells,Sc.kind,aS,go_sem]
theorem ue(QH:o.op=.alloc 31):(execOp ev o).run prog w=.ok (.value (.pk w.heap.size 0)) (w.alloc (.cells (Sc.mk 0 0 0 0 0 0 ⟨#[]⟩ 0 ⟨#[]⟩ ⟨#[]⟩ ⟨#[]⟩).cells 31)):=by
 have e:execOp ev o=(do pure (.value (←Instr.alloc 31 true (.tuple #[])))):=by simp only[execOp,QH]
 have h2:(do pure (.value (←Instr.alloc 31 true (.tuple #[]))):Sem Next).run prog w=.ok (.value (.pk w.heap.size 0)) (w.alloc (.cells (Sc.mk 0 0 0 0 0 0 ⟨#[]⟩ 0 ⟨#[]⟩ ⟨#[]⟩ ⟨#[]⟩).cells 31)):=by kernel_rfl
 rw[e,h2]
theorem DJ(QH:o.op=.build 31 #[(0,x),(1,y),(2,z),(3,u)])(h1:ev x=.agg s.kind)(h2:ev y=.string s.id)(h3:ev z=.int .i64 s.q)(h4:ev u=.string s.seed):(execOp ev o).run prog w=.ok (.value (.agg {s with path:=⟨#[]⟩,root:=⟨#[]⟩}.cells)) w:=by
 have e:execOp ev o=(do pure (.value (←Instr.build 31 #[(0,.agg s.kind),(1,.string s.id),(2,.int .i64 s.q),(3,.string s.seed)]))):=by simp[execOp,QH,h1,h2,h3,h4]
 have h5:(do pure (.value (←Instr.build 31 #[(0,.agg s.kind),(1,.string s.id),(2,.int .i64 s.q),(3,.string s.seed)])):Sem Next).run prog w=.ok (.value (.agg {s with path:=⟨#[]⟩,root:=⟨#[]⟩}.cells)) w:=by kernel_rfl
 rw[e,h5]
end

theorem M1(QL:KS.length=64)(QX:ip KS){cv:Array Value}{s:Sc}(hX:Xn=⟨(de KS (s.id++ob i 2++CI++s.seed).data.toList).toArray⟩)(hi:i<65536)(hlen:s.id.size+3+s.seed.size<=140737488355328)(hC:iX KS cv w)(Rx:w.heap[b3]?=some (.cells cv 26))(Re:w.heap[b4]?=some (.cells s.cells 31))
 (hF:ay [(2,.int .i64 i),(3,.pk b3 0),(4,.pk b4 0)] 18 [] a)
 (next:∀a w',(Bw w w'/\ay [(6,.string Xn),(2,.int .i64 i),(3,.pk b3 0),(4,.pk b4 0)] 18 [] a)->Rn kX Goal (fr.atR a K) cs w'):
 Rn kX Goal (fr.atR a (.code (rD f33 1)::K)) cs w:=by
 refine bY hF ?_;refine Gx.q (v:=.agg cv) ?_;refine Gx.q (v:=.pk b4 6) ?_;refine Gx.q (v:=.string s.id) ?_ (y:=λo a w1 ho z=>((an bN ho gx ((ak ((z.b.block _ (Array.getElem?_eq_some_iff.1 Re).1).trans Re) 6).trans rfl)).1));refine Gx.q ?_;refine Gx.k (v:=.string (ob i 2)) func29 (λw1 hb _=>(fD (i) 2 _ d_ o_)) ?_;refine Gx.q (v:=.string (s.id++ob i 2)) ?_;refine Gx.q (v:=.string (s.id++ob i 2++CI)) ?_ (y:=λo a w1 ho z=>(cn ho gx rfl (by simp only[ByteArray.size_append,bR,oa];omega)));refine Gx.q (v:=.pk b4 8) ?_ (y:=λo a w1 ho z=>(Oa ho gx));refine Gx.q (v:=.string s.seed) ?_ (y:=λo a w1 ho z=>((an bN ho gx ((ak ((z.b.block _ (Array.getElem?_eq_some_iff.1 Re).1).trans Re) 8).trans rfl)).1));refine Gx.q (v:=.string (s.id++ob i 2++CI++s.seed)) ?_ (y:=λo a w1 ho z=>(cn ho gx gx (by simp only[ByteArray.size_append,bR,oa];omega)));refine Gx.k (v:=.string Xn) func12 (λw1 hb _=>(kq (j0 KS QL QX cv (s.id++ob i 2++CI++s.seed) _ (hC.mono hb) (by simp only[ByteArray.size_append,bR,oa];omega)) (congrArg Value.string hX.symm))) ?_;refine Gx.q ?_;exact Gx.e λa w' hF hb _=>next a w' ⟨hb,hF.O⟩
def ja(KS:List Int)(s:Sc)(i:Nat):ByteArray:=⟨(de KS (s.id++ob i 2++CI++s.seed).data.toList).toArray⟩
theorem Nl:f33.body=some (.seq (rG f33 0) (.seq (rD f33 1) .ret)):=by kernel_rfl
theorem sD(QL:KS.length=64)(QX:ip KS){cv:Array Value}(s:Sc)(i:Nat)(hi:i<65536)(hlen:s.id.size+3+s.seed.size<=140737488355328)(w:World)(hC:iX KS cv w):
 Cl kX 33 #[.agg cv,.agg s.cells,.int .i64 i] w λe w'=>e=.returned (.string (ja KS s i))/\Bw w w':=by
 refine av (N:=18) func33 Nl λcs a hF=>?_;refine Rn.gr ?_;refine sn hF 3 0 26 rfl λa hF=>?_;show Rn _ _ _ _ (w.alloc (.cells cv 26));refine sn hF 4 1 31 rfl λa hF=>?_;rw[ao]at hF;show Rn _ _ _ _ ((w.alloc (.cells cv 26)).alloc (.cells s.cells 31));have QM:Bw w ((w.alloc (.cells cv 26)).alloc (.cells s.cells 31)):=ab (aD w _) (by rw[ao];omega) (aD _ _);have h5:=(bp (w.alloc (.cells cv 26)) (.cells s.cells 31) (b:=w.heap.size) (by rw[ao];omega)).trans (aK w _);have h6:=aK (w.alloc (.cells cv 26)) (.cells s.cells 31);rw[ao]at h6;revert QM h5 h6;generalize (w.alloc (.cells cv 26)).alloc (.cells s.cells 31)=w1;intro QM h5 h6;refine a9 hF λa hF=>?_;refine Rn.plain rfl (Rn.plain rfl ?_);refine M1 QL QX rfl hi hlen (hC.mono QM) h5 h6 (hF.only ⟨rfl,rfl,rfl,trivial⟩) λa w2 ⟨QN,hF⟩=>?_;exact aL hF ⟨rfl,ab QM QM.size QN⟩
theorem M4{s:Sc}(ht:s.t<1000)(hc:s.c<1000)(RR:s.id.size<=1000)(hrt:s.root.size<=1000)(Re:w.heap[b4]?=some (.cells s.cells 31))
 (hF:ay [(1,.pk b4 0)] 18 [] a)
 (next:∀a w',(Bw w w'/\ay [(2,.string (ob s.t 4++ob s.c 4++s.id++s.root)),(1,.pk b4 0)] 18 [] a)->Rn kX Goal (fr.atR a K) cs w'):
 Rn kX Goal (fr.atR a (.code (rD f10 1)::K)) cs w:=by
 refine bY hF ?_;refine Gx.q (v:=.pk b4 0) ?_;refine Gx.q (v:=.pk b4 0) ?_;refine Gx.q (v:=.int .i64 s.t) ?_;refine Gx.k (v:=.string (ob s.t 4)) func29 (λw1 hb _=>(fD (s.t) 4 _ d_ o_)) ?_;refine Gx.q (v:=.pk b4 0) ?_;refine Gx.q (v:=.pk b4 1) ?_;refine Gx.q (v:=.int .i64 s.c) ?_;refine Gx.k (v:=.string (ob s.c 4)) func29 (λw1 hb _=>(fD (s.c) 4 _ d_ o_)) ?_;refine Gx.q (v:=.string (ob s.t 4++ob s.c 4)) ?_;refine Gx.q (v:=.pk b4 6) ?_;refine Gx.q (v:=.string s.id) ?_ (y:=λo a w1 ho z=>((an bN ho gx ((ak ((z.b.block _ (Array.getElem?_eq_some_iff.1 Re).1).trans Re) 6).trans rfl)).1));refine Gx.q (v:=.string (ob s.t 4++ob s.c 4++s.id)) ?_;refine Gx.q (v:=.pk b4 10) ?_;refine Gx.q (v:=.string s.root) ?_ (y:=λo a w1 ho z=>((an bN ho gx ((ak ((z.b.block _ (Array.getElem?_eq_some_iff.1 Re).1).trans Re) 10).trans rfl)).1));refine Gx.q (v:=.string (ob s.t 4++ob s.c 4++s.id++s.root)) ?_;refine Gx.q ?_;exact Gx.e λa w' hF hb _=>next a w' ⟨hb,hF.O⟩
theorem Nv:f10.body=some (.seq (rG f10 0) (.seq (rD f10 1) .ret)):=by kernel_rfl
theorem IB(s:Sc)(ht:s.t<1000)(hc:s.c<1000)(RR:s.id.size<=1000)(hrt:s.root.size<=1000)(w:World):
 Cl kX 10 #[.agg s.cells] w λe w'=>e=.returned (.string (ob s.t 4++ob s.c 4++s.id++s.root))/\Bw w w':=by
 refine av (N:=18) func10 Nv λcs a hF=>?_;refine Rn.gr ?_;refine sn hF 1 0 31 rfl λa hF=>?_;show Rn _ _ _ _ (w.alloc (.cells s.cells 31));have QM:=aD w (.cells s.cells 31);refine a9 hF λa hF=>?_;refine Rn.plain rfl (Rn.plain rfl ?_);refine M4 ht hc RR hrt (aK w _) (hF.only ⟨rfl,trivial⟩) λa w2 ⟨QN,hF⟩=>?_;exact aL hF ⟨rfl,ab QM QM.size QN⟩

def yB(KS:List Int)(s:Sc)(i:Nat):ByteArray:=xi KS s.id s.q i (cj s.wd) 0 (ja KS s i)
def kK(KS:List Int)(s:Sc):Nat->ByteArray
 |0=>⟨#[]⟩
 |i+1=>kK KS s i++yB KS s i
def pB(KS:List Int)(seed:ByteArray)(n:Nat):ByteArray:=⟨(de KS (ob n 4++seed).data.toList).toArray⟩
def oG(KS:List Int)(seed:ByteArray)(lf:Nat):Nat->ByteArray
 |0=>⟨#[]⟩
 |i+1=>oG KS seed lf i++pB KS seed (bZ lf i)
def jr(KS:List Int)(id seed:ByteArray)(lf:Nat)(x:ByteArray):Nat->ByteArray
 |0=>x
 |i+1=>AZ KS id (bZ lf i) (pB KS seed (bZ lf i)) (jr KS id seed lf x i)
theorem zB(KS:List Int)(s:Sc)(i:Nat):(yB KS s i).size=32:=kI KS s.id s.q i _ 0 _ (cU KS _)
theorem m9(KS:List Int)(s:Sc):∀i,(kK KS s i).size=32*i
 |0=>rfl
 |i+1=>by rw[kK,ByteArray.size_append,m9 KS s i,zB];omega
theorem lW(KS:List Int)(seed:ByteArray)(lf:Nat):∀i,(oG KS seed lf i).size=32*i
 |0=>rfl
 |i+1=>by rw[oG,ByteArray.size_append,lW KS seed lf i,pB,cU];omega
theorem qK(KS:List Int)(id seed:ByteArray)(lf:Nat)(x:ByteArray)(hx:x.size=32):∀i,(jr KS id seed lf x i).size=32
 |0=>hx
 |_+1=>eH KS _
theorem IT(QL:KS.length=64)(QX:ip KS){cv:Array Value}{s:Sc}{en:ByteArray}{b6 b10:Nat}(hi:i<65536)(hlen:s.id.size+3+s.seed.size<=140737488355328)(RR:s.id.size<=1000)(hq:s.q<4294967296)(Sv:s.wd<=8)(h2:2^s.wd<=256)(h21:1<=2^s.wd)(htp:cj s.wd<65536)(hC:iX KS cv w)(Rx:w.heap[b5]?=some (.cells cv 26)){t:Int}{h:Nat}(RL:w.heap[b6]?=some (.cells (aS t c h s.wd n sh) 29))(Re:w.heap[b4]?=some (.cells s.cells 31))
 (hF:ay [(2,.string s.id),(3,.int .i64 s.q),(4,.string s.seed),(5,.pk b5 0),(6,.pk b6 0),(10,.pk b10 0),(11,.pk b4 0),(12,.string en),(13,.int .i64 i)] 93 [] a)
 (next:∀a w',(Bw w w'/\ay [(14,.string (yB KS s i)),(2,.string s.id),(3,.int .i64 s.q),(4,.string s.seed),(5,.pk b5 0),(6,.pk b6 0),(10,.pk b10 0),(11,.pk b4 0),(12,.string en),(13,.int .i64 i)] 93 [] a)->Rn kX Goal (fr.atR a K) cs w'):
 Rn kX Goal (fr.atR a (.code (rD f28 6)::K)) cs w:=by
 refine bY hF ?_;refine Gx.q (v:=.agg cv) ?_;refine Gx.q ?_;refine Gx.q ?_;refine Gx.q ?_;refine Gx.q (v:=.pk b6 3) ?_;refine Gx.q (v:=.int .i64 s.wd) ?_;refine Gx.q (v:=.int .i64 ((2^s.wd:Nat):Int)) ?_ (y:=λo a w1 ho z=>by
  have hp:(1:Int)*2^s.wd=((2^s.wd:Nat):Int):=by rw[Int.one_mul,Int.natCast_pow];rfl
  exact dq (gk (m:=1) (k:=s.wd) ho rfl gx o_ (by rw[hp];omega)) (by rw[hp]<;>rfl))
 refine Gx.q (v:=.int .i64 (cj s.wd)) ?_ (y:=λo a w1 ho z=>dq (lT (n:=1) ho gx rfl o_) (by exact congrArg (Value.int .i64) (by unfold cj;omega)));refine Gx.q (v:=.agg cv) ?_;refine Gx.q (v:=.agg s.cells) ?_ (y:=λo a w1 ho z=>(mx ho gx ((z.b.block _ (Array.getElem?_eq_some_iff.1 Re).1).trans Re)));refine Gx.q ?_;refine Gx.k (v:=.string (ja KS s i)) func33 (λw1 hb _=>(sD QL QX s i o_ hlen _ (hC.mono hb))) ?_;refine Gx.k (v:=.string (yB KS s i)) func32 (λw1 hb _=>(xX QL QX s.id (ja KS s i) s.q i 0 (cj s.wd) hq o_ d_ htp RR (cU KS _) _ (hC.mono hb))) ?_;refine Gx.q ?_;exact Gx.e λa w' hF hb _=>next a w' ⟨hb,hF.O⟩
theorem IS(QL:KS.length=64)(QX:ip KS){cv:Array Value}{id:ByteArray}{nn b10:Nat}(hX:pB KS seed nn=⟨(de KS (ob nn 4++seed).data.toList).toArray⟩)(hn:nn<4294967296)(hlen:seed.size+4<=140737488355328)(hC:iX KS cv w)(Rx:w.heap[b5]?=some (.cells cv 26))
 (hF:ay [(2,.string id),(4,.string seed),(5,.pk b5 0),(10,.pk b10 0),(11,.pk b4 0),(15,.int .i64 nn)] 93 [] a)
 (next:∀a w',(Bw w w'/\ay [(16,.string (pB KS seed nn)),(2,.string id),(4,.string seed),(5,.pk b5 0),(10,.pk b10 0),(11,.pk b4 0),(15,.int .i64 nn)] 93 [] a)->Rn kX Goal (fr.atR a K) cs w'):
 Rn kX Goal (fr.atR a (.code (rD f28 12)::K)) cs w:=by
 refine bY hF ?_;refine Gx.q (v:=.agg cv) ?_;refine Gx.q ?_;refine Gx.k (v:=.string (ob nn 4)) func29 (λw1 hb _=>(fD (nn) 4 _ d_ o_)) ?_;refine Gx.q ?_;refine Gx.q (v:=.string (ob nn 4++seed)) ?_;refine Gx.k (v:=.string (pB KS seed nn)) func12 (λw1 hb _=>(kq (j0 KS QL QX cv (ob nn 4++seed) _ (hC.mono hb) (by first|(simp only[bR];omega)|(simp only[ByteArray.size_append,bR];omega))) (congrArg Value.string hX.symm))) ?_;refine Gx.q ?_;exact Gx.e λa w' hF hb _=>next a w' ⟨hb,hF.O⟩

section
variable{o:Oper}{y:Operand}{m:Int}{u:TypeId}
theorem KN(QH:o.op=.unOp .neg 3 x)(hx:ev x=.int .i64 m)(h: -9223372036854775808<= -m/\ -m<9223372036854775808):(execOp ev o).run prog w=.ok (.value (.int .i64 (-m))) w:=by
 have e:IntKind.i64.wrap (-m)= -m:=by rw[IntKind.wrap_i64];omega
 simp[execOp,QH,hx,go_sem,e]
theorem DY{t:ByteArray}(QH:o.op=.slice 9 x none (some y) none)(hx:ev x=.string t)(hy:ev y=.int .i64 n)(h':n<=t.size):(execOp ev o).run prog w=.ok (.value (.string (t.extract 0 n))) w:=by
 have hu:prog.underlying 9=some .string:=by kernel_rfl
 simp[execOp,QH,hx,hy,Instr.sliceAt,Instr.slice,Instr.sliceBounds,run_underlying hu,Instr.sliceBound,asIntOf,h']
end
theorem Nq:f17.body=some (.seq (rG f17 0) (.seq (.seq (rG f17 1) (.cond (.tmp 6) (.seq (rG f17 2) .ret) .skip)) (.seq (.seq (rG f17 3) (.cond (.tmp 8) (rG f17 4) .skip)) (.seq (rG f17 5) .ret)))):=by kernel_rfl
theorem vE(hn:0<n)(hF:ay [(0,.int .i64 m),(1,.int .i64 n)] 15 [] a)(next:∀a,ay [(4,.int .i64 ((m%n:Nat):Int))] 15 [] a->Rn kX Goal ((base 17).atR a [.code .ret]) cs w):
 Rn kX Goal ((base 17).atR a [.code (.seq (rG f17 5) .ret)]) cs w:=by
 iterate 2 refine a9 hF λa hF=>?_
 refine a9 hF λa hF=>?_;refine a9 hF λa hF=>?_;exact Rn.plain rfl (next a (hF.only ⟨rfl,trivial⟩))
def dR(c:Int)(n:Nat):Nat:=(if c<0 then-(c+1)else c).toNat%n
theorem ib(c:Int)(hn:0<n):dR c n<n:=Nat.mod_lt _ hn
theorem fR(c:Int)(n:Nat)(hc: -9223372036854775808<=c/\c<9223372036854775808)(hn:0<n)(w:World):
 Cl kX 17 #[.int .i64 c,.int .i64 n] w λe w'=>e=.returned (.int .i64 (dR c n:Nat))/\w'=w:=by
 refine av (N:=15) func17 Nq λcs a hF=>?_
 iterate 3 refine a9 hF λa hF=>?_
 refine Rn.plain rfl (Rn.cond _ (hF.g 6) ?_);rw[show((n:Int)==0)=false from by simp;omega]
 iterate 2 refine a9 hF λa hF=>?_
 refine Rn.plain rfl (Rn.cond _ (hF.g 8) ?_);by_cases h:c<0
 .rw[decide_eq_true h]
  iterate 2 refine a9 hF λa hF=>?_
  refine af hF (λo ho=>KN ho (hF.g 10) o_) λa hF=>?_;refine a9 hF λa hF=>?_;refine Rn.plain rfl (vE (m:=(-(c+1)).toNat) hn (hF.only ⟨?_,rfl,trivial⟩) λa hF=>Rn.ends rfl (.inr ⟨_,rfl⟩) (Rn.now ⟨a,_,_,rfl,hF.defers,hF.slot 4 _ rfl,by simp[dR,h],rfl⟩));rw[Int.toNat_of_nonneg o_];rfl
 .rw[decide_eq_false h];refine Rn.plain rfl (vE (m:=c.toNat) hn (hF.only ⟨?_,rfl,trivial⟩) λa hF=>Rn.ends rfl (.inr ⟨_,rfl⟩) (Rn.now ⟨a,_,_,rfl,hF.defers,hF.slot 4 _ rfl,by simp[dR,h],rfl⟩));rw[Int.toNat_of_nonneg o_];rfl
theorem nP(c:Int)(n:Nat)(hc: -9223372036854775808<=c/\c<9223372036854775808)(hn:0<n)(w:World):
 Cl kX 17 #[.int .i64 c,.int .i64 n] w λe w'=>∃r:Nat,e=.returned (.int .i64 r)/\r<n/\w'=w:=(fR c n hc hn w).mono λ_ _ h=>⟨_,h.1,ib c hn,h.2⟩

section
variable{b:Frame}{k:List Item}
theorem Rn.pick(hF:ay F N ds a)(d x n:Nat)(hx:F.lookup x=some (.int .i64 c))(hc: -9223372036854775808<=c/\c<9223372036854775808)(hn:0<n)
 (next:∀r:Nat,r<n->∀a',ay ((d,.int .i64 r)::F) N ds a'->Rn kX Goal (b.atR a' (.inRegion ops rest::k)) cs w) (hd:d<N:=by decide) (h:(ops[m]?).map (λo=>(o.dst,o.op,o.guard))=some (some d,.call {callee:=.value (.func 17),args:=#[.tmp x,.const (.int .i64 n)],argTypes:=#[3,3]},none):=by kernel_rfl):Rn kX Goal (b.atR a (.inRegion ops (m::rest)::k)) cs w:=by
 obtain⟨o,ho,e1,e2,e3⟩:=ka h;refine Rn.call ho (e3 _) (by rw[e2];simp) (mz e2 (args:=#[.int .i64 c,.int .i64 n]) (by simp only[List.map_toArray,List.map_cons,List.map_nil,hF.get hx];rfl) func17 k_ k_ rfl) (R:=λv w'=>∃r:Nat,v=.int .i64 r/\r<n/\w'=w) ((nP c n hc hn w).mono λe w' ⟨r,h1,h2,h3⟩=>⟨_,h1,r,rfl,h2,h3⟩) λv w' hv=>?_;rw[e1];obtain⟨r,rfl,hr,hw⟩:=hv;rw[hw];exact next r hr _ (hF.put hd _)
theorem zv(hF:ay F N ds a)(d x y:Nat){s t:ByteArray}(hx:F.lookup x=some (.string s))(hy:F.lookup y=some (.string t))(hs:s.size+t.size<=9223372036854775807)
 (next:∀a',ay ((d,.string (s++t))::F) N ds a'->Rn kX Goal (b.atR a' (.inRegion ops rest::k)) cs w) (hd:d<N:=by decide) (h:(ops[m]?).map (λo=>(o.dst,o.op,o.guard))=some (some d,.binOp .add 9 (.tmp x) (.tmp y) 9,none):=by kernel_rfl):Rn kX Goal (b.atR a (.inRegion ops (m::rest)::k)) cs w:=
 Rn.op hF d (.binOp .add 9 (.tmp x) (.tmp y) 9) hd h s_ (λo ho=>cn ho (hF.get hx) (hF.get hy) hs) next (ok:=.inl ⟨pl (hF.get hx),pl (hF.get hy)⟩)
theorem FW(hF:ay F N ds a)(d e x j:Nat){c1 c2:Int}{hh b19:Nat}(v:Value)(hx:F.lookup x=some (.pk b19 0))(RL:w.heap[b19]?=some (.cells (aS c1 c2 hh wd n sh) 29))(hj:j<6)(hv:(aS c1 c2 hh wd n sh)[j]?=some v)
 (next:∀a',ay ((e,v)::(d,.pk b19 j)::F) N ds a'->Rn kX Goal (b.atR a' (.inRegion ops rest::k)) cs w) {m1:Nat} (hd:d<N:=by decide) (he:e<N:=by decide) (h:(ops[m]?).map (λo=>(o.dst,o.op,o.guard))=some (some d,.fieldAddr 29 (.tmp x) j,none):=by kernel_rfl) (h1:(ops[m1]?).map (λo=>(o.dst,o.op,o.guard))=some (some e,.load 3 (.tmp d),none):=by kernel_rfl):Rn kX Goal (b.atR a (.inRegion ops (m::m1::rest)::k)) cs w:=by
 refine Rn.op hF d (.fieldAddr 29 (.tmp x) j) hd h s_ (λo ho=>kv j hj ho (hF.get hx)) (ok:=xY (by rcases(by omega:j=0\/j=1\/j=2\/j=3\/j=4\/j=5)with rfl|rfl|rfl|rfl|rfl|rfl<;>kernel_rfl)) λa hF=>?_;exact Rn.op hF e (.load 3 (.tmp d)) he h1 s_ (λo ho=>(an az ho (hF.get (d:=d) (by simp[List.lookup])) ((ak RL j).trans hv)).1) next
theorem dU{o:Oper}{V:Value->Prop}(h:(execOp ev o).run P w=.ok (.value v) w')(hR:V v/\w'=w):∃v,(execOp ev o).run P w=.ok (.value v) w/\V v:=⟨v,hR.2▸h,hR.1⟩
theorem Rn.g(hF:ay F N ds a)(d:Nat)(p:Op)(g gd:Nat)(q:Bool)(V:Value->Prop)(hq:F.lookup gd=some (.bool q))(QT:∀c,p≠ .defer c)(hy:q=true->∀o:Oper,o.op=p->∃v,(execOp a.eval o).run prog w=.ok (.value v) w/\V v)
 (next:∀v a',(q=true->V v)->ay ((d,v)::F) N ds a'->Rn kX Goal (b.atR a' (.inRegion ops rest::k)) cs w) (hd:d<N:=by decide) (h:(ops[m]?).map (λo=>(o.dst,o.op,o.guard))=some (some d,p,some (g,true)):=by kernel_rfl) (hg:(ops[g]?).bind (·.dst)=some gd:=by kernel_rfl) (ok:q=true->kE prog a.eval p:=by first|(intro h;cases h;done)|(intro _;exact nG)):Rn kX Goal (b.atR a (.inRegion ops (m::rest)::k)) cs w:=by
 obtain⟨o,ho,e1,e2,e3⟩:=kC h;have hw:=nJ (tmps:=a.tmps) e3 hg (hF.slot gd _ hq);cases q with
 |false=>
  refine nA ho hw ?_;rw[e1];exact next _ _ (λh=>by cases h) (hF.put hd _)
 |true=>
  obtain⟨v,h1,h2⟩:=hy rfl o e2;refine oi ho hw (by rw[e2];exact QT) ⟨h1,gA (e2▸ok rfl),λ_=>rfl,rfl⟩ ?_;rw[e1];exact next v _ (λ_=>h2) (hF.put hd v)
end

end Go.Proofs.YtkmoglhgkcnalaaGreatDoor.L1
