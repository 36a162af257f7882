/- A part of what the last text of the claim imports: texts laid together, and made small, by a program. -/
import Derived.Test.YtkmoglhgkcnalaaDoorProg
import Derived.Conc.WalkWords
import Derived.KernelRfl
import Derived.Laws.Slices
import Derived.Conc.EventLaws2
import Derived.RowKit
import Derived.Laws.Panics
import Derived.Test.YtkmoglhgkcnalaaDoorOwn8
set_option maxHeartbeats 16000000
set_option maxRecDepth 100000
namespace Go.Proofs.YtkmoglhgkcnalaaDoor.L1
open Go.Proofs.YtkmoglhgkcnalaaDoor
section
variable{ql:Bool}
open Go.RowKit
theorem D9(KS:List Int)(ps:List ByteArray)(cap:Nat)(w:World)(b:Nat)(hb:b<w.heap.size)(hcell:∀k (h:k<ps.length),w.cell? ⟨b,k,none⟩=some (.string ps[k]))(hK:w.rangeAt 0 0 (aj KS))(hKl:KS.length=64)
 (hlen:(de ps ps.length).length<=576460752303423488) (hn:ps.length<=1152921504606846976):
 Calls (ac ql Tryd.prog) 26 #[.slice (some ⟨b,0,none⟩) ps.length cap] w λe w'=>e= .returned (.string ⟨(fk KS (de ps ps.length)).toArray⟩)/\Below w.heap.size w w':=by
 have HK:Hid (w.rangeAt 0 0 (aj KS)):=hK
 have Hc:Hid (∀k (h:k<ps.length),w.cell? ⟨b,k,none⟩=some (.string ps[k])):=hcell
 have Hlen:Hid ((de ps ps.length).length<=576460752303423488):=hlen
 have hsz:jM.toArray.size=73:=by rw[List.size_toArray,eo]
 have Hi:Hid (((ac ql Tryd.prog).info? 57).map (·.size)=some jM.toArray.size):=by show _=some jM.toArray.size;rw[hsz];exact Lf.size57
 clear hK hcell hlen
 go_enter Lf.func26,Tryd.ntmps26
 go_wp2_with fail
 refine(FU _).mono ?_
 rintro e w1 ⟨rfl,hb1⟩
 have hs1:=hb1.size
 have hth:(w1.alloc (.cells Tryd.zeroCells57 57)).there w1.heap.size 0 73:=cD _ _ _ _ _ rfl (by kernel_rfl)
 have hst:=run_storeCells_cells (P:=(ac ql Tryd.prog)) w1.heap.size 0 jM 0 (w1.alloc (.cells Tryd.zeroCells57 57)) (λj hj=>by rw[eo]at hj;exact(hth j hj).1) (λj hj=>by rw[eo]at hj;exact(hth j hj).2) (wG _ _ _)
 simp only[Nat.add_zero]at hst
 have HD1:Hid (dH ((w1.alloc (.cells Tryd.zeroCells57 57)).setCells w1.heap.size 0 jM) w1.heap.size KS [] (List.replicate 64 0) 0):=dH.new w1 KS _ _ (by kernel_rfl)
 have Hb1:Hid (Below w.heap.size w w1):=hb1
 clear hb1 hsz hth Hi
 go_wp2
 clear hst
 go_loopw [5,9] (λ_ i wr=>∃(k:Nat) (blk:List UInt8),k<=ps.length/\i= .int .i64 k/\dH wr w1.heap.size KS (de ps k) blk (de ps k).length/\Below w.heap.size w wr/\w1.heap.size<wr.heap.size) (λ_ i _=>ps.length-(intOf i).toNat)
 case atStart=>exact⟨0,List.replicate 64 0,Nat.zero_le _,rfl,HD1.out,cm hs1 _ _ _ _ (Hb1.out.alloc hs1 _),by rw[eN];simp⟩
 case round=>
  obtain⟨k,blk,hk,rfl,hD,hB,hz⟩:=hrel
  have HD:Hid (dH wr w1.heap.size KS (de ps k) blk (de ps k).length):=hD
  have HB:Hid (Below w.heap.size w wr):=hB
  clear hD hB HD1
  by_cases hlt:k<ps.length
  ·have hcl:wr.cell? ⟨b,k,none⟩=some (.string ps[k]):=by rw[HB.out.cell (p:=⟨b,k,none⟩) hb];exact Hc.out k hlt
   have hlt':(k:Int)<(ps.length:Int):=by omega
   generalize hp:ps[k]=p at hcl
   have HP:Hid (de ps (k+1)=de ps k++p.data.toList):=by show de ps (k+1)=_;rw[BP ps k hlt,hp]
   have hpl:(de ps k).length+p.size<=4611686018427387904:=by
    have h1:=Gw ps (k+1)
    have h2:=HP.out
    have h3:=Hlen.out
    have h4:p.data.toList.length=p.size:=by rw[Array.length_toList];rfl
    rw[h2,List.length_append,h4]at h1
    omega
   clear hp
   go_wp2_with fail
   refine(sE KS (de ps k) blk p wr w1.heap.size HD.out (aK HB.out (by omega) HK.out) hKl (by omega) hz hpl).mono ?_
   rintro e w4 ⟨rfl,hg4,blk4,hD4⟩
   have hz4:w1.heap.size<w4.heap.size:=by have:=hg4.size;omega
   have hB4:Below w.heap.size w w4:=lF HB.out hg4 hs1
   have h4:p.data.toList.length=p.size:=by rw[Array.length_toList];rfl
   have HD4:Hid (dH w4 w1.heap.size KS (de ps (k+1)) blk4 (de ps (k+1)).length):=by
    show dH w4 w1.heap.size KS (de ps (k+1)) blk4 (de ps (k+1)).length
    rw[HP.out,List.length_append,h4];exact hD4
   have HB4:Hid (Below w.heap.size w w4):=hB4
   clear hg4 hD4 hB4 h4 hpl
   go_wp2
   go_roundw
   case rel=>exact⟨k+1,blk4,by omega,by go_num,HD4.out,HB4.out,hz4⟩
   case measure=>simp[intOf];omega
  ·have hkl:k=ps.length:=by omega
   subst hkl
   clear hlt hk
   have hdl:=wH KS (de ps ps.length) blk (de ps ps.length).length ((de ps ps.length).length/64) HD.out.len
   have hi57:((ac ql Tryd.prog).info? 57).map (·.size)=some (iL (bu KS (de ps ps.length) ((de ps ps.length).length/64)) blk (de ps ps.length).length).length:=by rw[hdl];exact Lf.size57
   have Hwh:Hid (wr.rangeAt w1.heap.size 0 (iL (bu KS (de ps ps.length) ((de ps ps.length).length/64)) blk (de ps ps.length).length)):=HD.out.whole
   have hsum:=F6 (ql:=ql) KS (de ps ps.length) blk wr HD.out.len HD.out.tail (aK HB.out (by omega) HK.out) hKl (by omega) Hlen.out
   generalize iL (bu KS (de ps ps.length) ((de ps ps.length).length/64)) blk (de ps ps.length).length=DC at*
   have Hsum:Hid (Calls _ _ _ _ _):=hsum
   have Hi57:Hid (((ac ql Tryd.prog).info? 57).map (·.size)=some DC.length):=hi57
   clear hsum hdl hi57
   go_wp2_with (refine wpList_load_mid rfl 57 (.tmp 3) rfl w1.heap.size 0 rfl DC _ Hwh.out Lf.underlying57 rfl Hi57.out ?_)
   refine Hsum.out.mono ?_
   rintro e w5 ⟨rfl,hb5⟩
   go_wp2
   go_ret
   exact⟨rfl,HB.out.trans (hb5.mono (by have:=HB.out.size;omega))⟩
end
section
variable{ql:Bool}
open Go Go.Conc Go.RowKit
section
variable{w:World}{b:Nat}{s:cq}{ev:Operand->Value}{o:Oper}{x y z:Operand}
theorem aQ:GK (ac ql Tryd.prog) 3:=λw=>⟨by kernel_rfl,by kernel_rfl⟩
theorem bC:GK (ac ql Tryd.prog) 9:=λw=>⟨by kernel_rfl,by kernel_rfl⟩
theorem nI:GK (ac ql Tryd.prog) 22:=λw=>⟨by kernel_rfl,by kernel_rfl⟩
theorem ay{t:TypeId}{v:Value}{ad:Addr}(ht:GK (ac ql Tryd.prog) t)(hop:o.op= .load t x)(hx:ev x= .pointer (some ad))(h:w.cell? ad=some v):Yl (ac ql Tryd.prog) ev o w v #[⟨.cell ad,false,false⟩]:=by
 obtain⟨h1,h2⟩:=ht w
 constructor
 ·simp[execOp,hop,hx,Instr.loadAt,loadVar,h1,h,go_sem]
 ·simp[execOp,hop,hx,Instr.loadAt,loadVar,h1,h2,h,go_sem]
theorem jy{ex:Array Value}(hop:o.op= .load 82 x)(hx:ev x= .pointer (some ⟨b,0,none⟩))(h:w.heap[b]?=some (.cells (s.cells++ex) 82)):Yl (ac ql Tryd.prog) ev o w (.agg s.cells) (kt b):=by
 have h1:(isAgg 82).run (ac ql Tryd.prog) w= .ok true w:=by kernel_rfl
 have h2:(isAgg 82).events (ac ql Tryd.prog) w #[]=#[]:=by kernel_rfl
 have hc:∀k,k<12->w.cell? ⟨b,k,none⟩=s.cells[k]?:=λk hk=>(am h k).trans (Array.getElem?_append_left hk)
 have q0:w.cell? ⟨b,0,none⟩=some (.string s.tree):=hc 0 (by decide)
 have q1:w.cell? ⟨b,1,none⟩=some (.string s.chains):=hc 1 (by decide)
 have q2:w.cell? ⟨b,2,none⟩=some (.string s.id):=hc 2 (by decide)
 have q3:w.cell? ⟨b,3,none⟩=some (.string s.root):=hc 3 (by decide)
 have q4:w.cell? ⟨b,4,none⟩=some (.int .i64 s.height):=hc 4 (by decide)
 have q5:w.cell? ⟨b,5,none⟩=some (.int .i64 s.width):=hc 5 (by decide)
 have q6:w.cell? ⟨b,6,none⟩=some (.int .i64 s.count):=hc 6 (by decide)
 have q7:w.cell? ⟨b,7,none⟩=some (.int .i64 s.shift):=hc 7 (by decide)
 have q8:w.cell? ⟨b,8,none⟩=some (.int .i64 s.q):=hc 8 (by decide)
 have q9:w.cell? ⟨b,9,none⟩=some (.string s.salt):=hc 9 (by decide)
 have q10:w.cell? ⟨b,10,none⟩=some (.string s.links):=hc 10 (by decide)
 have q11:w.cell? ⟨b,11,none⟩=some (.string s.path):=hc 11 (by decide)
 constructor
 ·simp[execOp,hop,hx,Instr.loadAt,loadVar,h1,loadCells,loadCellsFrom,Addr.add,q0,q1,q2,q3,q4,q5,q6,q7,q8,q9,q10,q11,cq.cells,go_sem]
 ·simp[execOp,hop,hx,Instr.loadAt,loadVar,h1,h2,loadCells,loadCellsFrom,Addr.add,q0,q1,q2,q3,q4,q5,q6,q7,q8,q9,q10,q11,kt,go_sem]
theorem Lr(hop:o.op= .fieldAddr 82 x 0){k:Nat}(hx:ev x= .pointer (some ⟨b,k,none⟩)):Yl (ac ql Tryd.prog) ev o w (.pointer (some ⟨b,k,none⟩)) #[]:=by
 have e:execOp ev o=(do pure (.value (←Instr.fieldAt 82 (.pointer (some ⟨b,k,none⟩)) 0))):=by simp only[execOp,hop,hx]
 unfold Yl
 rw[e]
 constructor<;>kernel_rfl
theorem cQ{u:TypeId}{m n:Int}(hop:o.op= .binOp .lss 3 x y u)(hx:ev x= .int .i64 m)(hy:ev y= .int .i64 n):Yl (ac ql Tryd.prog) ev o w (.bool (decide (m<n))) #[]:=by
 constructor<;>simp[execOp,hop,hx,hy,go_sem]
theorem lc{u:TypeId}{m n:Int}(hop:o.op= .binOp .add 3 x y u)(hx:ev x= .int .i64 m)(hy:ev y= .int .i64 n)(h: -9223372036854775808<=m+n/\m+n<9223372036854775808):Yl (ac ql Tryd.prog) ev o w (.int .i64 (m+n)) #[]:=by
 have e:IntKind.i64.wrap (m+n)=m+n:=by rw[IntKind.wrap_i64];omega
 constructor<;>simp[execOp,hop,hx,hy,go_sem,e]
theorem dA{u:TypeId}{m n:Int}(hop:o.op= .binOp .mul 3 x y u)(hx:ev x= .int .i64 m)(hy:ev y= .int .i64 n)(h: -9223372036854775808<=m*n/\m*n<9223372036854775808):Yl (ac ql Tryd.prog) ev o w (.int .i64 (m*n)) #[]:=by
 have e:IntKind.i64.wrap (m*n)=m*n:=by rw[IntKind.wrap_i64];omega
 constructor<;>simp[execOp,hop,hx,hy,go_sem,e]
theorem lb{q:Bool}{t:TypeId}(hop:o.op= .unOp .not t x)(hx:ev x= .bool q):Yl (ac ql Tryd.prog) ev o w (.bool (!q)) #[]:=by
 constructor<;>simp[execOp,hop,hx,go_sem,Op.unary]
theorem cN{t:ByteArray}{m n:Nat}(hop:o.op= .slice 9 x (some y) (some z) none)(hx:ev x= .string t)(hy:ev y= .int .i64 m)(hz:ev z= .int .i64 n)(h:m<=n)(h':n<=t.size):Yl (ac ql Tryd.prog) ev o w (.string (t.extract m n)) #[]:=by
 have hu:(ac ql Tryd.prog).underlying 9=some .string:=by kernel_rfl
 constructor
 ·simp[execOp,hop,hx,hy,hz,Instr.sliceAt,Instr.slice,Instr.sliceBounds,run_underlying hu,Instr.sliceBound,asIntOf,h,h']
 ·simp[execOp,hop,hx,hy,hz,Instr.sliceAt,Instr.slice,Instr.sliceBounds,run_underlying hu,Instr.sliceBound,asIntOf,h,h',go_sem]
theorem gp{t e:TypeId}{a:Addr}{len cap n:Nat}(ht:(ac ql Tryd.prog).underlying t=some (.slice e))(he:∀w:World,(sizeOf e).run (ac ql Tryd.prog) w= .ok 1 w)(hop:o.op= .indexAddr t x y)(hx:ev x= .slice (some a) len cap)(hy:ev y= .int .i64 n)(hn:n<len):
 Yl (ac ql Tryd.prog) ev o w (.pointer (some (a.add n))) #[]:=by
 have h1:=he w
 constructor<;>simp[execOp,hop,hx,hy,go_sem,ht,h1,hn]
theorem gZ(hop:o.op= .alloc 3):Mk (ac ql Tryd.prog) ev o w #[.int .i64 0] 3:=by
 have e:execOp ev o=(do pure (.value (←Instr.alloc 3 true (.tuple #[])))):=by simp only[execOp,hop]
 unfold Mk
 rw[e]
 constructor<;>kernel_rfl
theorem eX{t:TypeId}{b k:Nat}{v v0:Value}(hv:v.cells=#[v])(hv1:v.oneCell'=true)(ht:(sizeOf t).run (ac ql Tryd.prog) w= .ok 1 w)(hop:o.op= .store t x y)(hx:ev x= .pointer (some ⟨b,k,none⟩))(hy:ev y=v)(h:w.cell? ⟨b,k,none⟩=some v0)(hf:w.frozen? ⟨b,k,none⟩=false):
 (execOp ev o).run (ac ql Tryd.prog) w= .ok .skip (w.setCell ⟨b,k,none⟩ v)/\(execOp ev o).events (ac ql Tryd.prog) w #[]=#[⟨.cell ⟨b,k,none⟩,true,false⟩]:=by
 have e:execOp ev o=(do Instr.storeAt t (.pointer (some ⟨b,k,none⟩)) v;pure .skip):=by simp only[execOp,hop,hx,hy]
 rw[e]
 simp only[Instr.storeAt,storeVar,hv]
 constructor
 ·simp[ht,storeCells,Addr.add,run_store _ _ _ _ _ hv1,h,hf,go_sem]
 ·simp[ht,storeCells,Addr.add,events_store (hv:=hv1),h,hf,go_sem]
end
end
section
variable{ql:Bool}
open Go.RowKit
theorem Ha(n:Nat)(hn:n<9223372036854775808)(w:World):
 Calls (ac ql Tryd.prog) 106 #[.int .i64 n] w λe w'=>e= .returned (.string ⟨(cg n 1).toArray⟩)/\Below w.heap.size w w':=by
 have hw:IntKind.u64.wrap (n:Int)=n:=by rw[IntKind.wrap_u64];omega
 go_enter Lf.func106,Tryd.ntmps106
 go_wp2_with (go_at_call 56;refine(ni n 1 _ (by omega)).mono ?_;rintro e w' ⟨rfl,hb⟩)
 go_ret
 exact⟨rfl,hb⟩
theorem lR(n:Nat)(hn:n<9223372036854775808)(w:World):
 Calls (ac ql Tryd.prog) 66 #[.int .i64 n] w λe w'=>e= .returned (.string ⟨(cg n 2).toArray⟩)/\Below w.heap.size w w':=by
 have hw:IntKind.u64.wrap (n:Int)=n:=by rw[IntKind.wrap_u64];omega
 go_enter Lf.func66,Tryd.ntmps66
 go_wp2_with (go_at_call 56;refine(ni n 2 _ (by omega)).mono ?_;rintro e w' ⟨rfl,hb⟩)
 go_ret
 exact⟨rfl,hb⟩
theorem qc(n:Nat)(hn:n<9223372036854775808)(w:World):
 Calls (ac ql Tryd.prog) 64 #[.int .i64 n] w λe w'=>e= .returned (.string ⟨(cg n 4).toArray⟩)/\Below w.heap.size w w':=by
 have hw:IntKind.u64.wrap (n:Int)=n:=by rw[IntKind.wrap_u64];omega
 go_enter Lf.func64,Tryd.ntmps64
 go_wp2_with (go_at_call 56;refine(ni n 4 _ (by omega)).mono ?_;rintro e w' ⟨rfl,hb⟩)
 go_ret
 exact⟨rfl,hb⟩
theorem zl(s:cq)(n:Nat)(hn:s.width=n)(h8:n<=8)(w:World):
 Calls (ac ql Tryd.prog) 78 #[.agg s.key] w λe w'=>e= .returned (.int .i64 (ck n))/\Below w.heap.size w w':=by
 have hs:n=0\/n=1\/n=2\/n=3\/n=4\/n=5\/n=6\/n=7\/n=8:=by omega
 unfold cq.key
 rw[hn]
 rcases hs with rfl|rfl|rfl|rfl|rfl|rfl|rfl|rfl|rfl
 all_goals
  go_enter Lf.func78,Tryd.ntmps78
  go_wp2
  go_ret
  exact⟨by simp[ck],an w _⟩
end
section
variable{ql:Bool}
open Go Go.Conc Go.RowKit
theorem Il:Tryd.f84.body=some (.seq (.region 0 (ae Tryd.f84 0) false) (.seq (.region 1 (ae Tryd.f84 1) true) (.seq (.seq (.region 2 (ae Tryd.f84 2) false)
 (.block 0 (.rangeFunc (.tmp 24) #[25] (.region 3 (ae Tryd.f84 3) false) (.block 1 (.region 4 (ae Tryd.f84 4) true))))) (.seq (.region 5 (ae Tryd.f84 5) false) .ret)))):=by kernel_rfl
theorem As(key:Array Value)(d:Int)(w:World):
 Calls (ac ql Tryd.prog) 105 #[.agg key, .int .i64 d] w λe w'=>e= .returned (.func (.func 116) #[] #[.pointer (some ⟨w.heap.size+1,0,none⟩), .pointer (some ⟨w.heap.size,0,none⟩)])/\w'=(w.alloc (.cells key 78)).alloc (.cells #[.int .i64 d] 3):=by
 go_enter Lf.func105,Tryd.ntmps105
 go_wp2
 go_ret
 exact⟨by simp,rfl⟩
section
variable{w:World}{b:Nat}{s:cq}{ev:Operand->Value}{o:Oper}{x y:Operand}
theorem Jl(hop:o.op= .fieldAddr 78 x 2)(hx:ev x= .pointer (some ⟨b,0,none⟩)):Yl (ac ql Tryd.prog) ev o w (.pointer (some ⟨b,2,none⟩)) #[]:=by
 have e:execOp ev o=(do pure (.value (←Instr.fieldAt 78 (.pointer (some ⟨b,0,none⟩)) 2))):=by simp only[execOp,hop,hx]
 unfold Yl
 rw[e]
 constructor<;>kernel_rfl
theorem Ku(hop:o.op= .fieldAddr 82 x 1)(hx:ev x= .pointer (some ⟨b,0,none⟩)):Yl (ac ql Tryd.prog) ev o w (.pointer (some ⟨b,8,none⟩)) #[]:=by
 have e:execOp ev o=(do pure (.value (←Instr.fieldAt 82 (.pointer (some ⟨b,0,none⟩)) 1))):=by simp only[execOp,hop,hx]
 unfold Yl
 rw[e]
 constructor<;>kernel_rfl
theorem fV{cs:Array Value}{t:TypeId}(hop:o.op= .load 78 x)(hx:ev x= .pointer (some ⟨b,0,none⟩))(h:w.heap[b]?=some (.cells cs t))(hk:∀i,i<8->cs[i]?=s.key[i]?):(execOp ev o).run (ac ql Tryd.prog) w= .ok (.value (.agg s.key)) w:=by
 have h1:(isAgg 78).run (ac ql Tryd.prog) w= .ok true w:=by kernel_rfl
 have hc:=am h
 have k0:=hk 0 (by decide)
 have k1:=hk 1 (by decide)
 have k2:=hk 2 (by decide)
 have k3:=hk 3 (by decide)
 have k4:=hk 4 (by decide)
 have k5:=hk 5 (by decide)
 have k6:=hk 6 (by decide)
 have k7:=hk 7 (by decide)
 simp[cq.key]at k0 k1 k2 k3 k4 k5 k6 k7
 simp[execOp,hop,hx,Instr.loadAt,loadVar,h1,loadCells,loadCellsFrom,Addr.add,hc,k0,k1,k2,k3,k4,k5,k6,k7,cq.key,go_sem]
theorem cu{t u:ByteArray}{z:TypeId}(hop:o.op= .binOp .add 9 x y z)(hx:ev x= .string t)(hy:ev y= .string u)(h:t.size+u.size<=9223372036854775807):(execOp ev o).run (ac ql Tryd.prog) w= .ok (.value (.string (t++u))) w:=by
 simp[execOp,hop,hx,hy,h,go_sem]
theorem ta(hop:o.op= .alloc 9):Mk (ac ql Tryd.prog) ev o w #[.string ⟨#[]⟩] 9:=by
 have e:execOp ev o=(do pure (.value (←Instr.alloc 9 true (.tuple #[])))):=by simp only[execOp,hop]
 unfold Mk
 rw[e]
 constructor<;>kernel_rfl
end
end
section
variable{ql:Bool}
open Go Go.Conc Go.RowKit
theorem KJ:zM (ae Tryd.f84 1)=true:=by kernel_rfl
section
variable{s:cq}{b4 b7 i:Nat}{d:Int}{Goal:Goroutine->World->Prop}{k:List Item}{cs:List Frame}
theorem KD{link:ByteArray}(hfine:zg s i d link){a:Act}{w:World}(h4:w.heap[b4]?=some (.cells s.cells 82))(hF:∀p∈FZ b4 b7 i d,a.tmps[p.1]?=some p.2)(hz:33<=a.tmps.size)(hds:a.defers=[])
 (next:∀a' w' b9,aM [(9, .pt b9),(1, .int .i64 i),(2, .int .i64 d),(4, .pt b4),(7, .pt b7)] 33 [] a'->Below w.heap.size w w'->w.heap.size<=b9->w'.heap[b9]?=some (.cells #[.string (wV s i)] 9)->Rn (ac ql Tryd.prog) Goal ((base 84).atR a' k) cs w'):
 Rn (ac ql Tryd.prog) Goal ((base 84).atR a (.code (.region 1 (ae Tryd.f84 1) true)::k)) cs w:=by
 have hq:(s.q.toNat:Int)=s.q:=Int.toNat_of_nonneg hfine.q.1
 have hql:=hfine.q.2
 refine Rn.draw λt=> ?_
 have hsch:Region.schedule (((ac ql Tryd.prog)).follows .mixedOrders) (ae Tryd.f84 1) t=Region.linearise .any (ae Tryd.f84 1) t:=by
  unfold Region.schedule
  rw[show Region.departs (ae Tryd.f84 1)=false from by kernel_rfl]
  simp
 rw[hsch]
 refine Rn.ordered (yJ KJ) (λlisted a w'=>eQ (FZ b4 b7 i d) (Aj s b4 i) 33 listed a/\Below w.heap.size w w'/\Al w (wV s i) 9 listed a w'/\(listed[11]?=some true->∀n,n<11->listed[n]?=some true)) (λlisted a w' hall h=> ?_) (λlisted a w' m o rest hsz ho hm hdep h hgo=> ?_) t a _ ⟨⟨hds,hz,hF,λp hp hl=> ?_⟩,iM w,λh=> ?_,λh=> ?_⟩
 ·obtain⟨h1,hb',hAl,hlast⟩:=h
  obtain⟨p,hp9,hp,x,hx,hx2⟩:=hAl (hall 10 (by decide))
  rw[hx2 (hall 11 (by decide))]at hx
  refine Rn.p rfl (next a w' p ⟨h1.defers,h1.size,λe v he=> ?_⟩ hb' hp hx)
  by_cases q9:e=9
  ·subst q9;simp only[List.lookup,beq_self_eq_true,Option.some.injEq]at he;subst he;exact hp9
  by_cases q1:e=1
  ·subst q1;simp[List.lookup]at he;subst he;exact h1.fixed _ (mG (i:=0) rfl)
  by_cases q2:e=2
  ·subst q2;simp[List.lookup]at he;subst he;exact h1.fixed _ (mG (i:=1) rfl)
  by_cases q4:e=4
  ·subst q4;simp[List.lookup]at he;subst he;exact h1.fixed _ (mG (i:=2) rfl)
  by_cases q7:e=7
  ·subst q7;simp[List.lookup]at he;subst he;exact h1.fixed _ (mG (i:=3) rfl)
  simp[List.lookup,show(e==9)=false from by simpa using q9,show(e==1)=false from by simpa using q1,show(e==2)=false from by simpa using q2,show(e==4)=false from by simpa using q4,show(e==7)=false from by simpa using q7]at he
 ·obtain⟨h1,hb',hAl,hlast⟩:=h
  have hlt:m<12:=(gA ho).1
  have h4':w'.heap[b4]?=some (.cells s.cells 82):=(hb'.block b4 (gA h4).1).trans h4
  have hsz0:w.heap.size<=w'.heap.size:=hb'.size
  have stepV:∀{m:Nat} {o:Oper} {e:Nat} (v:Value),(m,e,v)∈Aj s b4 i->o.dst=some e->(∀y,Region.wanted o y=true)->(∀c,o.op≠ .defer c)->(m≠10/\m≠11)->e≠9->(ae Tryd.f84 1)[m]?=some o->(execOp a.eval o).run (ac ql Tryd.prog) w'= .ok (.value v) w'->
   (∀a' w'',eQ (FZ b4 b7 i d) (Aj s b4 i) 33 (listed.setIfInBounds m true) a'/\Below w.heap.size w w''/\Al w (wV s i) 9 (listed.setIfInBounds m true) a' w''/\((listed.setIfInBounds m true)[11]?=some true->∀n,n<11->(listed.setIfInBounds m true)[n]?=some true)->Rn (ac ql Tryd.prog) Goal ((base 84).atR a' (.inRegion (ae Tryd.f84 1) rest::k)) cs w'')->
   Rn (ac ql Tryd.prog) Goal ((base 84).atR a (.inRegion (ae Tryd.f84 1) (m::rest)::k)) cs w':=λ{m o e} v hmem e1 e3 hnd hn9 he9 ho hy hgo=>by
   refine Rn.ran ho (e3 _) hnd hy ?_
   rw[e1]
   exact hgo _ _ ⟨Hq h1 hmem,hb',hAl.step hn9 he9 (bR),lz hn9.2 hlast⟩
  rcases(by omega:m=0\/m=1\/m=2\/m=3\/m=4\/m=5\/m=6\/m=7\/m=8\/m=9\/m=10\/m=11)with rfl|rfl|rfl|rfl|rfl|rfl|rfl|rfl|rfl|rfl|rfl|rfl
  ·obtain⟨e1,e2,e3⟩:=aJ (d:=some 11) (p:= .fieldAddr 82 (.tmp 4) 0) ho (by kernel_rfl)
   refine stepV (m:=0) _ (mG (i:=0) rfl) e1 e3 (by rw[e2];simp) (by decide) (by decide) ho ?_ hgo
   exact(Lr e2 (C5 (h1.fixed _ (mG (i:=2) rfl)))).1
  ·obtain⟨e1,e2,e3⟩:=aJ (d:=some 12) (p:= .fieldAddr 78 (.tmp 11) 2) ho (by kernel_rfl)
   refine stepV (m:=1) _ (mG (i:=1) rfl) e1 e3 (by rw[e2];simp) (by decide) (by decide) ho ?_ hgo
   exact(Jl e2 (C5 (h1.come _ (mG (i:=0) rfl) (aZ (n:=1) (k:=0) (by kernel_rfl) ho hdep)))).1
  ·obtain⟨e1,e2,e3⟩:=aJ (d:=some 13) (p:= .load 9 (.tmp 12)) ho (by kernel_rfl)
   refine stepV (m:=2) _ (mG (i:=2) rfl) e1 e3 (by rw[e2];simp) (by decide) (by decide) ho ?_ hgo
   exact(ay bC e2 (C5 (h1.come _ (mG (i:=1) rfl) (aZ (n:=2) (k:=1) (by kernel_rfl) ho hdep))) (by rw[am h4'];rfl)).1
  ·obtain⟨e1,e2,e3⟩:=aJ (d:=some 14) (p:= .fieldAddr 82 (.tmp 4) 1) ho (by kernel_rfl)
   refine stepV (m:=3) _ (mG (i:=3) rfl) e1 e3 (by rw[e2];simp) (by decide) (by decide) ho ?_ hgo
   exact(Ku e2 (C5 (h1.fixed _ (mG (i:=2) rfl)))).1
  ·obtain⟨e1,e2,e3⟩:=aJ (d:=some 15) (p:= .load 3 (.tmp 14)) ho (by kernel_rfl)
   refine stepV (m:=4) _ (mG (i:=4) rfl) e1 e3 (by rw[e2];simp) (by decide) (by decide) ho ?_ hgo
   exact(ay aQ e2 (C5 (h1.come _ (mG (i:=3) rfl) (aZ (n:=4) (k:=3) (by kernel_rfl) ho hdep))) (by rw[am h4'];show some (Value.int .i64 s.q)=_;rw[hq])).1
  ·obtain⟨e1,e2,e3⟩:=aJ (d:=some 16) (p:= .call {callee:= .value (.func 64),args:=#[.tmp 15],argTypes:=#[3]}) ho (by kernel_rfl)
   have a1:=(C5 (h1.come _ (mG (i:=4) rfl) (aZ (n:=5) (k:=4) (by kernel_rfl) ho hdep)))
   have hr:=az (w:=w') e2 (show(#[Operand.tmp 15]:Array Operand).map a.eval=#[.int .i64 s.q.toNat]from by simp[a1]) (aE (P:=(ac ql Tryd.prog)) Lf.func64 (by kernel_rfl) (by kernel_rfl) _)
   refine Rn.call ho (e3 _) (by rw[e2];simp) hr.1 (R:=λv w''=>v= .string ⟨(cg s.q.toNat 4).toArray⟩/\Below w'.heap.size w' w'') ?_ λv w'' hv=> ?_
   ·refine(qc s.q.toNat (by omega) w').mono ?_
    rintro e w'' ⟨rfl,hb⟩
    exact⟨_,rfl,rfl,hb⟩
   ·obtain⟨rfl,hb''⟩:=hv
    rw[e1]
    exact hgo _ _ ⟨Hq h1 (mG (i:=5) rfl),ah hb' hsz0 hb'',hAl.step (by decide) (by decide) hb'',lz (by decide) hlast⟩
  ·obtain⟨e1,e2,e3⟩:=aJ (d:=some 17) (p:= .binOp .add 9 (.tmp 13) (.tmp 16) 9) ho (by kernel_rfl)
   refine stepV (m:=6) _ (mG (i:=6) rfl) e1 e3 (by rw[e2];simp) (by decide) (by decide) ho ?_ hgo
   exact cu e2 (C5 (h1.come _ (mG (i:=2) rfl) (aZ (n:=6) (k:=2) (by kernel_rfl) ho hdep))) (C5 (h1.come _ (mG (i:=5) rfl) (aZ (n:=6) (k:=5) (by kernel_rfl) ho hdep))) (by rw[jL];have:=hfine.id;omega)
  ·obtain⟨e1,e2,e3⟩:=aJ (d:=some 18) (p:= .move (.tmp 1)) ho (by kernel_rfl)
   refine stepV (m:=7) _ (mG (i:=7) rfl) e1 e3 (by rw[e2];simp) (by decide) (by decide) ho ?_ hgo
   have hy:=(bz (ev:=a.eval) (o:=o) (w:=w') (ac ql Tryd.prog) (.inl e2)).1
   rw[(C5 (h1.fixed _ (mG (i:=0) rfl)))]at hy
   exact hy
  ·obtain⟨e1,e2,e3⟩:=aJ (d:=some 19) (p:= .call {callee:= .value (.func 66),args:=#[.tmp 18],argTypes:=#[3]}) ho (by kernel_rfl)
   have a1:=(C5 (h1.come _ (mG (i:=7) rfl) (aZ (n:=8) (k:=7) (by kernel_rfl) ho hdep)))
   have hr:=az (w:=w') e2 (show(#[Operand.tmp 18]:Array Operand).map a.eval=#[.int .i64 i]from by simp[a1]) (aE (P:=(ac ql Tryd.prog)) Lf.func66 (by kernel_rfl) (by kernel_rfl) _)
   refine Rn.call ho (e3 _) (by rw[e2];simp) hr.1 (R:=λv w''=>v= .string ⟨(cg i 2).toArray⟩/\Below w'.heap.size w' w'') ?_ λv w'' hv=> ?_
   ·refine(lR i (by have:=hfine.i;omega) w').mono ?_
    rintro e w'' ⟨rfl,hb⟩
    exact⟨_,rfl,rfl,hb⟩
   ·obtain⟨rfl,hb''⟩:=hv
    rw[e1]
    exact hgo _ _ ⟨Hq h1 (mG (i:=8) rfl),ah hb' hsz0 hb'',hAl.step (by decide) (by decide) hb'',lz (by decide) hlast⟩
  ·obtain⟨e1,e2,e3⟩:=aJ (d:=some 20) (p:= .binOp .add 9 (.tmp 17) (.tmp 19) 9) ho (by kernel_rfl)
   refine stepV (m:=9) _ (mG (i:=9) rfl) e1 e3 (by rw[e2];simp) (by decide) (by decide) ho ?_ hgo
   exact cu e2 (C5 (h1.come _ (mG (i:=6) rfl) (aZ (n:=9) (k:=6) (by kernel_rfl) ho hdep))) (C5 (h1.come _ (mG (i:=8) rfl) (aZ (n:=9) (k:=8) (by kernel_rfl) ho hdep))) (by rw[ByteArray.size_append,jL,jL];have:=hfine.id;omega)
  ·obtain⟨e1,e2,e3⟩:=aJ (d:=some 9) (p:= .alloc 9) ho (by kernel_rfl)
   refine Rn.ran ho (e3 _) (by rw[e2];simp) (ta e2).1 ?_
   rw[e1]
   refine hgo _ _ ⟨h1.aside (λp hp=> ?_) (λp hp=> ?_),ah hb' hsz0 (an w' _),λ_=>⟨w'.heap.size, ?_,hsz0,_,aC w' _,λh11=> ?_⟩,lz (by decide) hlast⟩
   ·simp only[FZ,List.mem_cons,List.not_mem_nil,or_false]at hp
    rcases hp with rfl|rfl|rfl|rfl<;>simp
   ·simp only[Aj,List.mem_cons,List.not_mem_nil,or_false]at hp
    rcases hp with rfl|rfl|rfl|rfl|rfl|rfl|rfl|rfl|rfl|rfl<;>simp
   ·exact Array.getElem?_setIfInBounds_self_of_lt (Nat.lt_of_lt_of_le (by decide) h1.size)
   ·rw[sN (by decide)]at h11
    exact absurd (hlast h11 10 (by decide)) (by rw[hm];simp)
  ·obtain⟨e1,e2,e3⟩:=aJ (d:=none) (p:= .store 9 (.tmp 9) (.tmp 20)) ho (by kernel_rfl)
   obtain⟨p,hp9,hp,x,hx,_⟩:=hAl (aZ (n:=11) (k:=10) (by kernel_rfl) ho hdep)
   have hst:=eX (ql:=ql) (w:=w') (b:=p) (k:=0) (v:= .string (wV s i)) (v0:= .string x) rfl rfl (by kernel_rfl) e2 (C5 hp9) (C5 (h1.come _ (mG (i:=9) rfl) (aZ (n:=11) (k:=9) (by kernel_rfl) ho hdep))) (by rw[am hx];rfl) (by unfold World.frozen?;rw[show w'.heap[(⟨p,0,none⟩:Addr).block]?=_ from hx];simp)
   refine Rn.did ho (e3 _) (by rw[e2];simp) hst.1 ?_
   rw[e1]
   refine hgo _ _ ⟨h1.pass (λp hp=> ?_) _,hb'.trans (dw w' _ _ hp),λ_=>⟨p,hp9,hp,_,kg hx,λ_=>rfl⟩,λ_ n hn=> ?_⟩
   ·simp only[Aj,List.mem_cons,List.not_mem_nil,or_false]at hp
    rcases hp with rfl|rfl|rfl|rfl|rfl|rfl|rfl|rfl|rfl|rfl<;>simp
   ·rw[sN (by omega)]
    exact rC ho hdep (by kernel_rfl) n hn
 ·simp[Array.getElem?_replicate]at hl
 ·simp[Array.getElem?_replicate]at h
 ·simp[Array.getElem?_replicate]at h
end
end
section
variable{ql:Bool}
open Go Go.Conc Go.RowKit
theorem JW:zM (ae Tryd.f84 4)=true:=by kernel_rfl
theorem AC{w:World}{ev:Operand->Value}{o:Oper}{x y z:Operand}{t u v:ByteArray}(hop:o.op= .buildSlice 70 3 #[(0,x),(1,y),(2,z)])(hx:ev x= .string t)(hy:ev y= .string u)(hz:ev z= .string v):
 (execOp ev o).run (ac ql Tryd.prog) w= .ok (.value (.slice (some ⟨w.heap.size,0,none⟩) 3 3)) (w.alloc (.cells #[.string t, .string u, .string v] 9)):=by
 have e:execOp ev o=(do pure (.value (←Instr.buildSlice 70 3 #[(0, .string t),(1, .string u),(2, .string v)]))):=by simp[execOp,hop,hx,hy,hz]
 have h2:(do pure (.value (←Instr.buildSlice 70 3 #[(0, .string t),(1, .string u),(2, .string v)])):Sem Next).run (ac ql Tryd.prog) w= .ok (.value (.slice (some ⟨w.heap.size,0,none⟩) 3 3)) (w.alloc (.cells #[.string t, .string u, .string v] 9)):=by kernel_rfl
 rw[e,h2]
section
variable{s:cq}{b7 b9 i j l:Nat}{x:List UInt8}{KS:List Int}{Goal:Goroutine->World->Prop}{k:List Item}{cs:List Frame}
theorem KC(hKl:KS.length=64)(hid:s.id.size<65536)(hj:j<256)(hx:x.length=32){a:Act}{w:World}(hK:w.rangeAt 0 0 (aj KS))(h0:0<w.heap.size)(h7:w.heap[b7]?=some (.cells #[.string ⟨x.toArray⟩] 9))(h9:w.heap[b9]?=some (.cells #[.string (wV s i)] 9))
 (hF:∀p∈rY b7 b9 j,a.tmps[p.1]?=some p.2) (hz:33<=a.tmps.size) (hds:a.defers=[])
 (next:∀a' w1,Below w.heap.size w w1->Rn (ac ql Tryd.prog) Goal ((rb 84 l).atR a' k) cs (w1.setCell ⟨b7,0,none⟩ (.string ⟨(j6 KS (iE s i) j x).toArray⟩))):
 Rn (ac ql Tryd.prog) Goal ((rb 84 l).atR a (.code (.region 4 (ae Tryd.f84 4) true)::k)) cs w:=by
 refine Rn.draw λt=> ?_
 have hsch:Region.schedule (((ac ql Tryd.prog)).follows .mixedOrders) (ae Tryd.f84 4) t=Region.linearise .any (ae Tryd.f84 4) t:=by
  unfold Region.schedule
  rw[show Region.departs (ae Tryd.f84 4)=false from by kernel_rfl]
  simp
 rw[hsch]
 refine Rn.ordered (yJ JW) (λlisted a w'=>eQ (rY b7 b9 j) (nj s i j x) 33 listed a/\K1 w b7 (.string ⟨(j6 KS (iE s i) j x).toArray⟩) listed w'/\A4 #[.string (wV s i), .string ⟨(cg j 1).toArray⟩, .string ⟨x.toArray⟩] 9 listed a w'/\A5 (.string ⟨(j6 KS (iE s i) j x).toArray⟩) listed a/\(listed[6]?=some true->∀n,n<6->listed[n]?=some true))
  (λlisted a w' hall h=> ?_) (λlisted a w' m o rest hsz ho hm hdep h hgo=> ?_) t a _ ⟨⟨hds,hz,hF,λp hp hl=> ?_⟩, .inl ⟨by rfl,iM w⟩,λh=> ?_,λh=> ?_,λh=> ?_⟩
 ·obtain⟨h1,hp6,_⟩:=h
  rcases hp6 with⟨h6,_⟩|⟨_,w1,hb1,rfl⟩
  ·rw[hall 6 (by decide)]at h6
   cases h6
  ·exact Rn.p rfl (next a w1 hb1)
 ·obtain⟨h1,hp6,hA4,hA5,hlast⟩:=h
  have hlt:m<7:=(gA ho).1
  have h6:m<7->listed[6]?=some false:=λ_=>by
   rcases hp6 with⟨h6,_⟩|⟨h6,_⟩
   ·exact h6
   ·exfalso
    by_cases e:m=6
    ·subst e
     rw[hm]at h6
     cases h6
    ·have:=hlast h6 m (by omega)
     rw[hm]at this
     cases this
  have hb':Below w.heap.size w w':=by
   rcases hp6 with⟨_,hb⟩|⟨h,_⟩
   ·exact hb
   ·rw[h6 hlt]at h
    cases h
  have h7':w'.heap[b7]?=some (.cells #[.string ⟨x.toArray⟩] 9):=(hb'.block b7 (gA h7).1).trans h7
  have h9':w'.heap[b9]?=some (.cells #[.string (wV s i)] 9):=(hb'.block b9 (gA h9).1).trans h9
  have hsz0:w.heap.size<=w'.heap.size:=hb'.size
  have stepV:∀{m:Nat} {o:Oper} {e:Nat} (v:Value),(m,e,v)∈nj s i j x->o.dst=some e->(∀y,Region.wanted o y=true)->(∀c,o.op≠ .defer c)->(m≠4/\m≠5/\m≠6)->(e≠30/\e≠31)->(ae Tryd.f84 4)[m]?=some o->(execOp a.eval o).run (ac ql Tryd.prog) w'= .ok (.value v) w'->
   (∀a' w'',eQ (rY b7 b9 j) (nj s i j x) 33 (listed.setIfInBounds m true) a'/\K1 w b7 (.string ⟨(j6 KS (iE s i) j x).toArray⟩) (listed.setIfInBounds m true) w''/\A4 #[.string (wV s i), .string ⟨(cg j 1).toArray⟩, .string ⟨x.toArray⟩] 9 (listed.setIfInBounds m true) a' w''/\A5 (.string ⟨(j6 KS (iE s i) j x).toArray⟩) (listed.setIfInBounds m true) a'/\((listed.setIfInBounds m true)[6]?=some true->∀n,n<6->(listed.setIfInBounds m true)[n]?=some true)->
    Rn (ac ql Tryd.prog) Goal ((rb 84 l).atR a' (.inRegion (ae Tryd.f84 4) rest::k)) cs w'')->
   Rn (ac ql Tryd.prog) Goal ((rb 84 l).atR a (.inRegion (ae Tryd.f84 4) (m::rest)::k)) cs w':=λ{m o e} v hmem e1 e3 hnd hn he ho hy hgo=>by
   refine Rn.ran ho (e3 _) hnd hy ?_
   rw[e1]
   exact hgo _ _ ⟨GN h1 hmem, .inl ⟨by rw[sN hn.2.2];exact h6 hlt,hb'⟩,hA4.step hn.1 he.1 (bR),hA5.step hn.2.1 he.2,lz hn.2.2 hlast⟩
  rcases(by omega:m=0\/m=1\/m=2\/m=3\/m=4\/m=5\/m=6)with rfl|rfl|rfl|rfl|rfl|rfl|rfl
  ·obtain⟨e1,e2,e3⟩:=aJ (d:=some 26) (p:= .load 9 (.tmp 9)) ho (by kernel_rfl)
   refine stepV (m:=0) _ (mG (i:=0) rfl) e1 e3 (by rw[e2];simp) ⟨by decide,by decide,by decide⟩ ⟨by decide,by decide⟩ ho ?_ hgo
   exact(ay bC e2 (C5 (h1.fixed _ (mG (i:=1) rfl))) (by rw[am h9'];rfl)).1
  ·obtain⟨e1,e2,e3⟩:=aJ (d:=some 27) (p:= .move (.tmp 10)) ho (by kernel_rfl)
   refine stepV (m:=1) _ (mG (i:=1) rfl) e1 e3 (by rw[e2];simp) ⟨by decide,by decide,by decide⟩ ⟨by decide,by decide⟩ ho ?_ hgo
   have hy:=(bz (ev:=a.eval) (o:=o) (w:=w') (ac ql Tryd.prog) (.inl e2)).1
   rw[(C5 (h1.fixed _ (mG (i:=2) rfl)))]at hy
   exact hy
  ·obtain⟨e1,e2,e3⟩:=aJ (d:=some 28) (p:= .call {callee:= .value (.func 106),args:=#[.tmp 27],argTypes:=#[3]}) ho (by kernel_rfl)
   have a1:=(C5 (h1.come _ (mG (i:=1) rfl) (aZ (n:=2) (k:=1) (by kernel_rfl) ho hdep)))
   have hr:=az (w:=w') e2 (show(#[Operand.tmp 27]:Array Operand).map a.eval=#[.int .i64 j]from by simp[a1]) (aE (P:=(ac ql Tryd.prog)) Lf.func106 (by kernel_rfl) (by kernel_rfl) _)
   refine Rn.call ho (e3 _) (by rw[e2];simp) hr.1 (R:=λv w''=>v= .string ⟨(cg j 1).toArray⟩/\Below w'.heap.size w' w'') ?_ λv w'' hv=> ?_
   ·refine(Ha j (by omega) w').mono ?_
    rintro e w'' ⟨rfl,hb⟩
    exact⟨_,rfl,rfl,hb⟩
   ·obtain⟨rfl,hb''⟩:=hv
    rw[e1]
    exact hgo _ _ ⟨GN h1 (mG (i:=2) rfl), .inl ⟨by rw[sN (by decide)];exact h6 (by decide),ah hb' hsz0 hb''⟩,hA4.step (by decide) (by decide) hb'',hA5.step (by decide) (by decide),lz (by decide) hlast⟩
  ·obtain⟨e1,e2,e3⟩:=aJ (d:=some 29) (p:= .load 9 (.tmp 7)) ho (by kernel_rfl)
   refine stepV (m:=3) _ (mG (i:=3) rfl) e1 e3 (by rw[e2];simp) ⟨by decide,by decide,by decide⟩ ⟨by decide,by decide⟩ ho ?_ hgo
   exact(ay bC e2 (C5 (h1.fixed _ (mG (i:=0) rfl))) (by rw[am h7'];rfl)).1
  ·obtain⟨e1,e2,e3⟩:=aJ (d:=some 30) (p:= .buildSlice 70 3 #[(0, .tmp 26),(1, .tmp 28),(2, .tmp 29)]) ho (by kernel_rfl)
   refine Rn.ran ho (e3 _) (by rw[e2];simp) (AC e2 (C5 (h1.come _ (mG (i:=0) rfl) (aZ (n:=4) (k:=0) (by kernel_rfl) ho hdep))) (C5 (h1.come _ (mG (i:=2) rfl) (aZ (n:=4) (k:=2) (by kernel_rfl) ho hdep))) (C5 (h1.come _ (mG (i:=3) rfl) (aZ (n:=4) (k:=3) (by kernel_rfl) ho hdep)))) ?_
   rw[e1]
   refine hgo _ _ ⟨h1.aside (λp hp=> ?_) (λp hp=> ?_), .inl ⟨by rw[sN (by decide)];exact h6 (by decide),ah hb' hsz0 (an w' _)⟩,λ_=>⟨w'.heap.size, ?_,aC w' _⟩,hA5.step (by decide) (by decide),lz (by decide) hlast⟩
   ·simp only[rY,List.mem_cons,List.not_mem_nil,or_false]at hp
    rcases hp with rfl|rfl|rfl<;>simp
   ·simp only[nj,List.mem_cons,List.not_mem_nil,or_false]at hp
    rcases hp with rfl|rfl|rfl|rfl<;>simp
   ·exact Array.getElem?_setIfInBounds_self_of_lt (Nat.lt_of_lt_of_le (by decide) h1.size)
  ·obtain⟨e1,e2,e3⟩:=aJ (d:=some 31) (p:= .call {callee:= .value (.func 26),args:=#[.tmp 30],argTypes:=#[70]}) ho (by kernel_rfl)
   obtain⟨p,hp30,hp⟩:=hA4 (aZ (n:=5) (k:=4) (by kernel_rfl) ho hdep)
   have a1:=C5 hp30
   have hr:=az (w:=w') e2 (show(#[Operand.tmp 30]:Array Operand).map a.eval=#[.slice (some ⟨p,0,none⟩) 3 3]from by simp[a1]) (aE (P:=(ac ql Tryd.prog)) Lf.func26 (by kernel_rfl) (by kernel_rfl) _)
   refine Rn.call ho (e3 _) (by rw[e2];simp) hr.1 (R:=λv w''=>v= .string ⟨(j6 KS (iE s i) j x).toArray⟩/\Below w'.heap.size w' w'') ?_ λv w'' hv=> ?_
   ·have hcat:de [wV s i,⟨(cg j 1).toArray⟩,⟨x.toArray⟩] 3=iE s i++cg j 1++x:=by simp[de,E6]
    have hlen:(iE s i++cg j 1++x).length<=65600:=by
     have:s.id.data.toList.length=s.id.size:=by simp
     simp[iE,bT,hx]
     omega
    refine(D9 KS [wV s i,⟨(cg j 1).toArray⟩,⟨x.toArray⟩] 3 w' p (gA hp).1 (λk hk=> ?_) (aK hb' h0 hK) hKl (by rw[show[wV s i,⟨(cg j 1).toArray⟩,(⟨x.toArray⟩:ByteArray)].length=3 from rfl,hcat];omega) (by simp)).mono ?_
    ·rw[am hp]
     have h3:k=0\/k=1\/k=2:=by simp at hk;omega
     rcases h3 with rfl|rfl|rfl<;>rfl
    ·rintro e w'' ⟨rfl,hb⟩
     refine⟨_,rfl, ?_,hb⟩
     rw[show[wV s i,⟨(cg j 1).toArray⟩,(⟨x.toArray⟩:ByteArray)].length=3 from rfl,hcat]
     rfl
   ·obtain⟨rfl,hb''⟩:=hv
    rw[e1]
    refine hgo _ _ ⟨h1.aside (λp hp=> ?_) (λp hp=> ?_), .inl ⟨by rw[sN (by decide)];exact h6 (by decide),ah hb' hsz0 hb''⟩,hA4.step (by decide) (by decide) hb'',λ_=> ?_,lz (by decide) hlast⟩
    ·simp only[rY,List.mem_cons,List.not_mem_nil,or_false]at hp
     rcases hp with rfl|rfl|rfl<;>simp
    ·simp only[nj,List.mem_cons,List.not_mem_nil,or_false]at hp
     rcases hp with rfl|rfl|rfl|rfl<;>simp
    ·exact Array.getElem?_setIfInBounds_self_of_lt (Nat.lt_of_lt_of_le (by decide) h1.size)
  ·obtain⟨e1,e2,e3⟩:=aJ (d:=none) (p:= .store 9 (.tmp 7) (.tmp 31)) ho (by kernel_rfl)
   have hst:=eX (ql:=ql) (w:=w') (b:=b7) (k:=0) (v:= .string ⟨(j6 KS (iE s i) j x).toArray⟩) (v0:= .string ⟨x.toArray⟩) rfl rfl (by kernel_rfl) e2 (C5 (h1.fixed _ (mG (i:=0) rfl))) (C5 (hA5 (aZ (n:=6) (k:=5) (by kernel_rfl) ho hdep))) (by rw[am h7'];rfl) (by unfold World.frozen?;rw[show w'.heap[(⟨b7,0,none⟩:Addr).block]?=_ from h7'];simp)
   refine Rn.did ho (e3 _) (by rw[e2];simp) hst.1 ?_
   rw[e1]
   refine hgo _ _ ⟨h1.pass (λp hp=> ?_) _, .inr ⟨Array.getElem?_setIfInBounds_self_of_lt (by rw[hsz];decide),w',hb',rfl⟩,λh4=> ?_,λh5=> ?_,λ_ n hn=> ?_⟩
   ·simp only[nj,List.mem_cons,List.not_mem_nil,or_false]at hp
    rcases hp with rfl|rfl|rfl|rfl<;>simp
   ·rw[sN (by decide)]at h4
    obtain⟨p,hp30,hp⟩:=hA4 h4
    refine⟨p,hp30,(bV w' _ (λe=> ?_)).trans hp⟩
    have e:p=b7:=e
    subst e
    rw[h7']at hp
    cases hp
   ·rw[sN (by decide)]at h5
    exact hA5 h5
   ·rw[sN (by omega)]
    exact rC ho hdep (by kernel_rfl) n hn
 ·simp[Array.getElem?_replicate]at hl
 ·simp[Array.getElem?_replicate]at h
 ·simp[Array.getElem?_replicate]at h
 ·simp[Array.getElem?_replicate]at h
end
end
section
variable{ql:Bool}
open Go Go.Conc Go.RowKit
theorem Gy:Tryd.f116.body=some (.seq (.region 0 (ae Tryd.f116 0) false) (.block 0 (.loop (kB Tryd.f116)))):=by kernel_rfl
section
variable{s:cq}{i b7 b9 k2 l ld n:Nat}{KS:List Int}{w0:World}{x:List UInt8}{T:Array Value}{Goal:Goroutine->World->Prop}{cf:Frame}{cs:List Frame}
theorem Fg(hKl:KS.length=64)(hid:s.id.size<65536)(hK:w0.rangeAt 0 0 (aj KS))(h0:0<w0.heap.size)(hT:aM [(7, .pt b7),(9, .pt b9)] 33 [] ⟨T,[]⟩)(hf:ub b7 b9 k2 l ld w0){j:Nat}(hj:j<256)(hx:x.length=32){w:World}
 (hC:Ch s i b7 b9 k2 l ld (yM Tryd.f84 84 T ld) 9 78 w0 .ready x w)
 (next:∀w',Ch s i b7 b9 k2 l ld (yM Tryd.f84 84 T ld) 9 78 w0 .ready (j6 KS (iE s i) j x) w'->Rn (ac ql Tryd.prog) Goal (cf.finish (.bool true)) cs w'):
 Rn (ac ql Tryd.prog) Goal (Frame.round l 84 (((#[25]:Array Tmp).zip #[.int .i64 j]).foldl (λtmps (t,a)=>tmps.setIfInBounds t a) T) (.region 3 (ae Tryd.f84 3) false) (.block 1 (.region 4 (ae Tryd.f84 4) true)) .normal) (cf::cs) w:=by
 have hF:=hT.put (d:=25) (by decide) (.int .i64 j)
 have ez:((#[25]:Array Tmp).zip #[.int .i64 j]).foldl (λ(tmps:Array Value) (x:Tmp×Value)=>match x with|(t,a)=>tmps.setIfInBounds t a) T=T.setIfInBounds 25 (.int .i64 j):=by simp
 rw[ez]
 show Rn _ Goal ((rb 84 l).atR (Act.put ⟨T,[]⟩ (some 25) (.int .i64 j)) [.code (.region 3 (ae Tryd.f84 3) false), .beginRound, .code (.block 1 (.region 4 (ae Tryd.f84 4) true))]) (cf::cs) w
 revert hF
 generalize Act.put ⟨T,[]⟩ (some 25) (.int .i64 j)=a
 intro hF
 have m0:=λo (ho:o.op= .assign (.tmp 25))=>(bz (ev:=a.eval) (o:=o) (w:=w) (ac ql Tryd.prog) (.inr ho)).1
 rw[hF.get (d:=25) rfl]at m0
 refine Rn.r (L:=[0]) rfl (Rn.op hF 10 (.assign (.tmp 25)) (by decide) (by kernel_rfl) (by simp) m0 λa hF=> ?_)
 refine Rn.p rfl (Rn.rounds (r:=yM Tryd.f84 84 T ld .ready) rfl hC.loop rfl ?_)
 have hC1:=hC.turn hf .busy
 have hs1:=hC1.old.size
 refine Rn.p rfl (KC (b9:=b9) (s:=s) (i:=i) (x:=x) hKl hid hj hx (aK hC1.old h0 hK) (Nat.lt_of_lt_of_le h0 hs1) hC1.seven hC1.nine (λp hp=> ?_) hF.size hF.defers λa' w1 hb1=> ?_)
 ·simp only[rY,List.mem_cons,List.not_mem_nil,or_false]at hp
  rcases hp with rfl|rfl|rfl
  ·exact hF.slot 7 _ rfl
  ·exact hF.slot 9 _ rfl
  ·exact hF.slot 10 _ rfl
 have hC2:=(hC1.below hb1).put hf (j6 KS (iE s i) j x)
 exact Rn.p rfl (Rn.through rfl rfl hC2.loop (next _ (hC2.turn hf .ready)))
theorem CE(hKl:KS.length=64)(hid:s.id.size<65536)(hwd:s.width=n)(hn:n<=8)(ht:ck n<=255)(hK:w0.rangeAt 0 0 (aj KS))(h0:0<w0.heap.size)(hT:aM [(7, .pt b7),(9, .pt b9)] 33 [] ⟨T,[]⟩)(hf:ub b7 b9 k2 l ld w0){fin:List UInt8}
 (hend:∀w',Ch s i b7 b9 k2 l ld (yM Tryd.f84 84 T ld) 9 78 w0 .ready fin w'->Rn (ac ql Tryd.prog) Goal (cf.finish (.tuple #[])) cs w')
 (j:Nat) (x:List UInt8) (a:Act) (w:World) (hj:j<257) (hx:x.length=32) (hfin:gR KS (iE s i) (ck n- j) j x=fin) (hF:aM [(0, .func (.yield l) #[] #[]),(2, .pt k2),(4, .int .i64 j)] 16 [] a)
 (hC:Ch s i b7 b9 k2 l ld (yM Tryd.f84 84 T ld) 9 78 w0 .ready x w)
 (again:j<ck n->∀a w,aM [(0, .func (.yield l) #[] #[]),(2, .pt k2),(4, .int .i64 (j+1:Nat))] 16 [] a->Ch s i b7 b9 k2 l ld (yM Tryd.f84 84 T ld) 9 78 w0 .ready (j6 KS (iE s i) j x) w->
   Rn (ac ql Tryd.prog) Goal ((base 116).atR a [.code (kB Tryd.f116), .inLoop (kB Tryd.f116), .inBlock 0]) (cf::cs) w):
 Rn (ac ql Tryd.prog) Goal ((base 116).atR a [.code (kB Tryd.f116), .inLoop (kB Tryd.f116), .inBlock 0]) (cf::cs) w:=by
 refine Rn.p rfl (Rn.p rfl (Rn.r (L:=[0,1,2,3]) rfl ?_))
 have m1:=λo (ho:o.op= .move (.tmp 4))=>(bz (ev:=a.eval) (o:=o) (w:=w) (ac ql Tryd.prog) (.inl ho)).1
 rw[hF.get (d:=4) rfl]at m1
 refine Rn.op hF 6 (.move (.tmp 4)) (by decide) (by kernel_rfl) (by simp) m1 λa hF=> ?_
 refine Rn.op hF 7 (.load 78 (.tmp 2)) (by decide) (by kernel_rfl) (by simp) (λo ho=>fV (s:=s) ho (hF.get (d:=2) rfl) hC.key λ_ _=>rfl) λa hF=> ?_
 cases ho:(ae Tryd.f116 1)[2]? with
 |none=>exact absurd ho (by simp;decide)
 |some o=>
 obtain⟨e1,e2,e3⟩:=aJ (d:=some 8) (p:= .call {callee:= .value (.func 78),args:=#[.tmp 7],argTypes:=#[78]}) ho (by kernel_rfl)
 have hr:=az (w:=w) e2 (show(#[Operand.tmp 7]:Array Operand).map a.eval=#[.agg s.key]from by simp[hF.get (d:=7) rfl]) (aE (P:=(ac ql Tryd.prog)) Lf.func78 (by kernel_rfl) (by kernel_rfl) _)
 refine Rn.call ho (e3 _) (by rw[e2];simp) hr.1 (R:=λv w'=>v= .int .i64 (ck n)/\Below w.heap.size w w') ((zl s n hwd hn w).mono λe w' h=>⟨_,h.1,rfl,h.2⟩) λv w1 hv=> ?_
 obtain⟨rfl,hb1⟩:=hv
 rw[e1]
 have hC:=hC.below hb1
 have hF:=hF.put (d:=8) (by decide) (.int .i64 (ck n))
 revert hF
 generalize a.put (some 8) (.int .i64 (ck n))=a
 intro hF
 clear e1 e2 e3 ho hr hb1
 refine Rn.op hF 9 (.binOp .lss 3 (.tmp 6) (.tmp 8) 3) (by decide) (by kernel_rfl) (by simp) (λo ho=>(cQ ho (hF.get (d:=6) rfl) (hF.get (d:=8) rfl)).1) λa hF=> ?_
 refine Rn.p rfl (Rn.cond (decide ((j:Int)<ck n)) (hF.get (d:=9) rfl) ?_)
 by_cases hlt:j<ck n
 ·have e:decide ((j:Int)<ck n)=true:=decide_eq_true (by omega)
  rw[e]
  refine Rn.p rfl (Rn.p rfl (Rn.p rfl (Rn.p rfl (Rn.r (L:=[0,1,2,3]) rfl ?_))))
  have m2:=λo (ho:o.op= .move (.tmp 0))=>(bz (ev:=a.eval) (o:=o) (w:=w1) (ac ql Tryd.prog) (.inl ho)).1
  rw[hF.get (d:=0) rfl]at m2
  refine Rn.op hF 12 (.move (.tmp 0)) (by decide) (by kernel_rfl) (by simp) m2 λa hF=> ?_
  have m3:=λo (ho:o.op= .move (.tmp 4))=>(bz (ev:=a.eval) (o:=o) (w:=w1) (ac ql Tryd.prog) (.inl ho)).1
  rw[hF.get (d:=4) rfl]at m3
  refine Rn.op hF 13 (.move (.tmp 4)) (by decide) (by kernel_rfl) (by simp) m3 λa hF=> ?_
  cases ho:(ae Tryd.f116 3)[2]? with
  |none=>exact absurd ho (by simp;decide)
  |some o=>
  obtain⟨e1,e2,e3⟩:=aJ (d:=some 14) (p:= .call {callee:= .value (.tmp 12),args:=#[.tmp 13],argTypes:=#[3]}) ho (by kernel_rfl)
  refine Rn.yields (args:=#[.int .i64 j]) ho (e3 _) (by rw[e2];simp) hC.loop rfl (λw=>mH e2 (hF.get (d:=12) rfl) (by simp[hF.get (d:=13) rfl]) w) ?_
  refine Fg hKl hid hK h0 hT hf (by omega) hx hC λw2 hC2=> ?_
  rw[Frame.finish_atR,ho,Option.bind_some,e1]
  have hF:=hF.put (d:=14) (by decide) (.bool true)
  revert hF
  generalize a.put (some 14) (.bool true)=a
  intro hF
  clear e1 e2 e3 ho
  refine Rn.op hF 15 (.unOp .not 4 (.tmp 14)) (by decide) (by kernel_rfl) (by simp) (λo ho=>(lb ho (hF.get (d:=14) rfl)).1) λa hF=> ?_
  refine Rn.p rfl (Rn.cond false (hF.get (d:=15) rfl) ?_)
  refine Rn.p rfl (Rn.p rfl (Rn.r (L:=[0,1,2]) rfl ?_))
  have m4:=λo (ho:o.op= .move (.tmp 4))=>(bz (ev:=a.eval) (o:=o) (w:=w2) (ac ql Tryd.prog) (.inl ho)).1
  rw[hF.get (d:=4) rfl]at m4
  refine Rn.op hF 10 (.move (.tmp 4)) (by decide) (by kernel_rfl) (by simp) m4 λa hF=> ?_
  refine Rn.op hF 11 (.binOp .add 3 (.tmp 10) (.const (.int .i64 1)) 3) (by decide) (by kernel_rfl) (by simp) (λo ho=>(lc (m:=j) (n:=1) ho (hF.get (d:=10) rfl) rfl (by omega)).1) λa hF=> ?_
  have m5:=λo (ho:o.op= .assign (.tmp 11))=>(bz (ev:=a.eval) (o:=o) (w:=w2) (ac ql Tryd.prog) (.inr ho)).1
  rw[hF.get (d:=11) rfl]at m5
  refine Rn.op hF 4 (.assign (.tmp 11)) (by decide) (by kernel_rfl) (by simp) m5 λa hF=> ?_
  refine Rn.p rfl (Rn.p rfl (again hlt a w2 ⟨hF.defers,hF.size,λd v hd=> ?_⟩ hC2))
  have h3:d=0\/d=2\/d=4:=by
   by_cases h0:d=0
   ·exact .inl h0
   ·by_cases h2:d=2
    ·exact .inr (.inl h2)
    ·by_cases h4:d=4
     ·exact .inr (.inr h4)
     ·simp[List.lookup,show(d==0)=false from by simpa using h0,show(d==2)=false from by simpa using h2,show(d==4)=false from by simpa using h4]at hd
  rcases h3 with rfl|rfl|rfl
  ·exact hF.slot 0 v hd
  ·exact hF.slot 2 v hd
  ·refine(hF.slot 4 _ rfl).trans ?_
   rw[←hd]
   simp[List.lookup]
 ·have e:decide ((j:Int)<ck n)=false:=decide_eq_false (by omega)
  rw[e]
  rw[show ck n- j=0 from by omega]at hfin
  have hfin:x=fin:=hfin
  subst hfin
  exact Rn.p rfl (Rn.ends rfl (.inl rfl) (Rn.leave (.tuple #[]) rfl hF.defers Lf.func116 (results_none rfl _ _ w1) (events_results_none rfl _ _) (hend w1 hC)))
theorem HI(hKl:KS.length=64)(hid:s.id.size<65536)(hwd:s.width=n)(hn:n<=8)(hK:w0.rangeAt 0 0 (aj KS))(h0:0<w0.heap.size)(hT:aM [(7, .pt b7),(9, .pt b9)] 33 [] ⟨T,[]⟩)(hf:ub b7 b9 k2 l ld w0){fin:List UInt8}
 (hend:∀w',Ch s i b7 b9 k2 l ld (yM Tryd.f84 84 T ld) 9 78 w0 .ready fin w'->Rn (ac ql Tryd.prog) Goal (cf.finish (.tuple #[])) cs w'):
 ∀(fuel j:Nat) (x:List UInt8) (a:Act) (w:World),ck n- j<=fuel->j<257->x.length=32->gR KS (iE s i) (ck n- j) j x=fin->aM [(0, .func (.yield l) #[] #[]),(2, .pt k2),(4, .int .i64 j)] 16 [] a->
  Ch s i b7 b9 k2 l ld (yM Tryd.f84 84 T ld) 9 78 w0 .ready x w->
  Rn (ac ql Tryd.prog) Goal ((base 116).atR a [.code (kB Tryd.f116), .inLoop (kB Tryd.f116), .inBlock 0]) (cf::cs) w:=by
 have ht:ck n<=255:=by
  unfold ck
  have h8:n=0\/n=1\/n=2\/n=3\/n=4\/n=5\/n=6\/n=7\/n=8:=by omega
  rcases h8 with rfl|rfl|rfl|rfl|rfl|rfl|rfl|rfl|rfl<;>decide
 intro fuel
 induction fuel with
 |zero=>exact λj x a w hfu hj hx hfin hF hC=>CE hKl hid hwd hn ht hK h0 hT hf hend j x a w hj hx hfin hF hC λh=>by omega
 |succ fuel ih=>exact λj x a w hfu hj hx hfin hF hC=>CE hKl hid hwd hn ht hK h0 hT hf hend j x a w hj hx hfin hF hC λh a w hF hC=>ih (j+1) _ a w (by omega) (by omega) (nl _ _ _ _) (by rw[←yL _ _ _ _ _ h];exact hfin) hF hC
end
end
section
variable{ql:Bool}
open Go Go.Conc Go.RowKit
theorem zK(KS:List Int)(s:cq)(i:Nat)(d:Int)(link:ByteArray)(hfine:zg s i d link)(w:World)(hK:w.rangeAt 0 0 (aj KS))(hKl:KS.length=64)(h0:0<w.heap.size):
 Calls (ac ql Tryd.prog) 84 #[.agg s.cells, .int .i64 i, .int .i64 d, .string link] w λe w'=>e= .returned (.string (iZ KS s i d link))/\Below w.heap.size w w':=by
 obtain⟨n,hn⟩:∃n:Nat,s.width=n:=⟨s.width.toNat,(Int.toNat_of_nonneg hfine.width.1).symm⟩
 obtain⟨j,hj⟩:∃j:Nat,d=j:=⟨d.toNat,(Int.toNat_of_nonneg hfine.d.1).symm⟩
 subst hj
 have hn8:n<=8:=by have:=hfine.width.2;omega
 have hj256:j<256:=by have:=hfine.d.2;omega
 refine bF (t:=8) Lf.func84 rfl λcs=> ?_
 rw[show(#[.agg s.cells, .int .i64 i, .int .i64 j, .string link]:Array Value)=[.agg s.cells, .int .i64 i, .int .i64 j, .string link].toArray from rfl,bW (N:=33) _ Lf.func84 Il rfl]
 have hF:=bm [.agg s.cells, .int .i64 i, .int .i64 j, .string link] 33 (by simp)
 revert hF
 generalize (Act.mk (([.agg s.cells, .int .i64 i, .int .i64 j, .string link]:List Value).toArray++Array.replicate (33-([.agg s.cells, .int .i64 i, .int .i64 j, .string link]:List Value).toArray.size) undef) [])=a
 intro hF
 refine Rn.p rfl (Rn.r (L:=[0,1,2]) rfl ?_)
 have b1:=λ(o:Oper) (ho:o.op= .box 82 (.tmp 0))=>(lx (ev:=a.eval) (w:=w) (ac ql Tryd.prog) ho).1
 rw[hF.get (d:=0) rfl]at b1
 refine Rn.op hF 4 (.box 82 (.tmp 0)) (by decide) (by kernel_rfl) (by simp) b1 λa hF=> ?_
 have b2:=λ(o:Oper) (ho:o.op= .box 9 (.tmp 3))=>(lx (ev:=a.eval) (w:=w.alloc (.cells (Value.agg s.cells).cells 82)) (ac ql Tryd.prog) ho).1
 rw[hF.get (d:=3) rfl]at b2
 refine Rn.op hF 7 (.box 9 (.tmp 3)) (by decide) (by kernel_rfl) (by simp) b2 λa hF=> ?_
 have f4:((w.alloc (.cells (Value.agg s.cells).cells 82)).alloc (.cells (Value.string link).cells 9)).heap[w.heap.size]?=some (.cells s.cells 82):=(bH _ _ (by rw[ak];omega)).trans (aC w _)
 have f7:((w.alloc (.cells (Value.agg s.cells).cells 82)).alloc (.cells (Value.string link).cells 9)).heap[w.heap.size+1]?=some (.cells #[.string link] 9):=by
  have:=aC (w.alloc (.cells (Value.agg s.cells).cells 82)) (.cells (Value.string link).cells 9)
  rw[ak]at this
  exact this
 have fb:Below w.heap.size w ((w.alloc (.cells (Value.agg s.cells).cells 82)).alloc (.cells (Value.string link).cells 9)):=ah (an w _) (by rw[ak];omega) (an _ _)
 have fs:((w.alloc (.cells (Value.agg s.cells).cells 82)).alloc (.cells (Value.string link).cells 9)).heap.size=w.heap.size+2:=by rw[ak,ak]
 rw[ak]at hF
 revert f4 f7 fb fs
 generalize (w.alloc (.cells (Value.agg s.cells).cells 82)).alloc (.cells (Value.string link).cells 9)=w1
 intro f4 f7 fb fs
 refine Rn.op hF 8 (.assign (.const (.string ⟨#[]⟩))) (by decide) (by kernel_rfl) (by simp) (λo ho=>(bz (ev:=a.eval) (w:=w1) (ac ql Tryd.prog) (.inr ho)).1) λa hF=> ?_
 refine Rn.p rfl (Rn.p rfl (KD (s:=s) (i:=i) (d:=j) (b4:=w.heap.size) (b7:=w.heap.size+1) (link:=link) hfine f4 (λp hp=> ?_) hF.size hF.defers λa w2 b9 hF hb2 hb9 f9=> ?_))
 ·simp only[FZ,List.mem_cons,List.not_mem_nil,or_false]at hp
  rcases hp with rfl|rfl|rfl|rfl
  ·exact hF.slot 1 _ rfl
  ·exact hF.slot 2 _ rfl
  ·exact hF.slot 4 _ rfl
  ·exact hF.slot 7 _ rfl
 have g4:=(hb2.block _ (by omega)).trans f4
 have g7:=(hb2.block _ (by omega)).trans f7
 have gb:=ah fb (by omega) hb2
 have gs:=hb2.size
 refine Rn.p rfl (Rn.p rfl (Rn.r (L:=[0,1,2,3]) rfl ?_))
 refine Rn.op hF 21 (.fieldAddr 82 (.tmp 4) 0) (by decide) (by kernel_rfl) (by simp) (λo ho=>(Lr ho (hF.get (d:=4) rfl)).1) λa hF=> ?_
 refine Rn.op hF 22 (.load 78 (.tmp 21)) (by decide) (by kernel_rfl) (by simp) (λo ho=>fV (s:=s) ho (hF.get (d:=21) rfl) g4 (λk hk=> ?_)) λa hF=> ?_
 ·have h8:k=0\/k=1\/k=2\/k=3\/k=4\/k=5\/k=6\/k=7:=by omega
  rcases h8 with rfl|rfl|rfl|rfl|rfl|rfl|rfl|rfl<;>rfl
 have m1:=λo (ho:o.op= .move (.tmp 2))=>(bz (ev:=a.eval) (o:=o) (w:=w2) (ac ql Tryd.prog) (.inl ho)).1
 rw[hF.get (d:=2) rfl]at m1
 refine Rn.op hF 23 (.move (.tmp 2)) (by decide) (by kernel_rfl) (by simp) m1 λa hF=> ?_
 cases ho:(ae Tryd.f84 2)[3]? with
 |none=>exact absurd ho (by simp;decide)
 |some o=>
 obtain⟨e1,e2,e3⟩:=aJ (d:=some 24) (p:= .call {callee:= .value (.func 105),args:=#[.tmp 22, .tmp 23],argTypes:=#[78,3]}) ho (by kernel_rfl)
 have hr:=az (w:=w2) e2 (show(#[Operand.tmp 22, .tmp 23]:Array Operand).map a.eval=#[.agg s.key, .int .i64 j]from by simp[hF.get (d:=22) rfl,hF.get (d:=23) rfl]) (aE (P:=(ac ql Tryd.prog)) Lf.func105 (by kernel_rfl) (by kernel_rfl) _)
 refine Rn.call ho (e3 _) (by rw[e2];simp) hr.1 (R:=λv w'=>v= .func (.func 116) #[] #[.pointer (some ⟨w2.heap.size+1,0,none⟩), .pointer (some ⟨w2.heap.size,0,none⟩)]/\w'=(w2.alloc (.cells s.key 78)).alloc (.cells #[.int .i64 j] 3)) ((As s.key j w2).mono λe w' h=>⟨_,h.1,rfl,h.2⟩) λv w3 hv=> ?_
 obtain⟨rfl,hw3⟩:=hv
 rw[e1]
 have hF:=hF.put (d:=24) (by decide) (.func (.func 116) #[] #[.pointer (some ⟨w2.heap.size+1,0,none⟩), .pointer (some ⟨w2.heap.size,0,none⟩)])
 revert hF
 generalize a.put (some 24) (.func (.func 116) #[] #[.pointer (some ⟨w2.heap.size+1,0,none⟩), .pointer (some ⟨w2.heap.size,0,none⟩)])=a
 intro hF
 clear e1 e2 e3 ho hr
 have kb:Below w2.heap.size w2 w3:=by rw[hw3];exact ah (an w2 _) (by rw[ak];omega) (an _ _)
 have ks:w3.heap.size=w2.heap.size+2:=by rw[hw3,ak,ak]
 have kk:w3.heap[w2.heap.size]?=some (.cells s.key 78):=by rw[hw3];exact(bH _ _ (by rw[ak];omega)).trans (aC w2 _)
 have kd:w3.heap[w2.heap.size+1]?=some (.cells #[.int .i64 j] 3):=by
  rw[hw3]
  have:=aC (w2.alloc (.cells s.key 78)) (.cells #[.int .i64 j] 3)
  rw[ak]at this
  exact this
 have k7:=(kb.block _ (by omega)).trans g7
 have k9:=(kb.block _ (gA f9).1).trans f9
 have b9lt:=(gA f9).1
 clear hw3
 refine Rn.p rfl (Rn.p rfl ?_)
 refine Rn.rangeAs (yM Tryd.f84 84 a.tmps w3.heap.size .ready) (args:=[.func (.yield (w3.heap.size+1)) #[] #[], .pointer (some ⟨w2.heap.size+1,0,none⟩), .pointer (some ⟨w2.heap.size,0,none⟩)].toArray) rfl rfl Lf.func116 (by kernel_rfl) (by kernel_rfl) (hF.get (d:=24) rfl) (by simp) ?_
 have hold:Below w.heap.size w (cp w3 (yM Tryd.f84 84 a.tmps w3.heap.size .ready)):=ah (ah gb (by omega) kb) (by omega) (i9 w3 _)
 have hC:Ch s i (w.heap.size+1) b9 w2.heap.size (w3.heap.size+1) w3.heap.size (yM Tryd.f84 84 a.tmps w3.heap.size) 9 78 w .ready link.data.toList (cp w3 (yM Tryd.f84 84 a.tmps w3.heap.size .ready)):=
  ⟨hold,(bv w3 _ (by omega)).trans (by rw[k7]),(bv w3 _ (by omega)).trans k9,(bv w3 _ (by omega)).trans kk,fy w3 _,fz w3 _⟩
 have hFar:ub (w.heap.size+1) b9 w2.heap.size (w3.heap.size+1) w3.heap.size w:=⟨⟨by omega,by omega,by omega⟩,⟨by omega,by omega,by omega,by omega⟩,⟨by omega,by omega,by omega⟩⟩
 have kd':(cp w3 (yM Tryd.f84 84 a.tmps w3.heap.size .ready)).heap[w2.heap.size+1]?=some (.cells #[.int .i64 j] 3):=(bv w3 _ (by omega)).trans kd
 revert hC kd' hold
 generalize cp w3 (yM Tryd.f84 84 a.tmps w3.heap.size .ready)=w4
 intro hold hC kd'
 rw[bW (N:=16) _ Lf.func116 Gy rfl]
 have hH:=bm [.func (.yield (w3.heap.size+1)) #[] #[], .pointer (some ⟨w2.heap.size+1,0,none⟩), .pointer (some ⟨w2.heap.size,0,none⟩)] 16 (by simp)
 revert hH
 generalize (Act.mk (([.func (.yield (w3.heap.size+1)) #[] #[], .pointer (some ⟨w2.heap.size+1,0,none⟩), .pointer (some ⟨w2.heap.size,0,none⟩)]:List Value).toArray++Array.replicate (16-([.func (.yield (w3.heap.size+1)) #[] #[], .pointer (some ⟨w2.heap.size+1,0,none⟩), .pointer (some ⟨w2.heap.size,0,none⟩)]:List Value).toArray.size) undef) [])=g
 intro hH
 refine Rn.p rfl (Rn.r (L:=[0,1]) rfl ?_)
 refine Rn.op hH 5 (.load 3 (.tmp 1)) (by decide) (by kernel_rfl) (by simp) (λo ho=>(ay (v:= .int .i64 j) aQ ho (hH.get (d:=1) rfl) (by rw[am kd'];rfl)).1) λg hH=> ?_
 have m2:=λo (ho:o.op= .assign (.tmp 5))=>(bz (ev:=g.eval) (o:=o) (w:=w4) (ac ql Tryd.prog) (.inr ho)).1
 rw[hH.get (d:=5) rfl]at m2
 refine Rn.op hH 4 (.assign (.tmp 5)) (by decide) (by kernel_rfl) (by simp) m2 λg hH=> ?_
 refine Rn.p rfl (Rn.p rfl (Rn.p rfl ?_))
 have hlen:link.data.toList.length=32:=by have:=hfine.link;simpa using this
 refine HI (s:=s) (i:=i) (KS:=KS) (n:=n) (T:=a.tmps) (l:=w3.heap.size+1) (ld:=w3.heap.size) (k2:=w2.heap.size) (b7:=w.heap.size+1) (b9:=b9) (w0:=w) hKl hfine.id hn hn8 hK h0 ⟨rfl,hF.size,λe v he=> ?_⟩ hFar (fin:=gR KS (iE s i) (ck n- j) j link.data.toList) (λw5 hC5=> ?_) (ck n- j) j link.data.toList g w4 (Nat.le_refl _) (by omega) hlen rfl (hH.sub λe v he=> ?_) hC
 ·by_cases q7:e=7
  ·subst q7;exact hF.slot 7 v he
  by_cases q9:e=9
  ·subst q9;exact hF.slot 9 v he
  simp[List.lookup,show(e==7)=false from by simpa using q7,show(e==9)=false from by simpa using q9]at he
 ·show Rn (ac ql Tryd.prog) _ ((base 84).atR ⟨a.tmps,{target:= .collected w3.heap.size,args:=#[]}::a.defers⟩ (.endRangeFunc (w3.heap.size+1)::_)) cs w5
  refine Rn.rangeOver hC5.loop rfl rfl ?_
  have hC6:=hC5.turn hFar .exhausted
  have hG:aM ((24, .func (.func 116) #[] #[.pointer (some ⟨w2.heap.size+1,0,none⟩), .pointer (some ⟨w2.heap.size,0,none⟩)])::(23, .int .i64 j)::(22, .agg s.key)::(21, .pt w.heap.size)::[(9, .pt b9),(1, .int .i64 i),(2, .int .i64 j),(4, .pt w.heap.size),(7, .pt (w.heap.size+1))]) 33 [{target:= .collected w3.heap.size,args:=#[]}] ⟨a.tmps,{target:= .collected w3.heap.size,args:=#[]}::a.defers⟩:=⟨by rw[hF.defers],hF.size,hF.slot⟩
  revert hG
  generalize (Act.mk a.tmps ({target:= .collected w3.heap.size,args:=#[]}::a.defers))=a2
  intro hG
  refine Rn.p rfl (Rn.p rfl (Rn.r (L:=[0,1]) rfl ?_))
  refine Rn.op hG 32 (.load 9 (.tmp 7)) (by decide) (by kernel_rfl) (by simp) (λo ho=>(ay (v:= .string ⟨(gR KS (iE s i) (ck n- j) j link.data.toList).toArray⟩) bC ho (hG.get (d:=7) rfl) ((am hC6.seven 0).trans rfl)).1) λa3 hG=> ?_
  have m3:=λo (ho:o.op= .assign (.tmp 32))=>(bz (ev:=a3.eval) (o:=o) (w:=aX w5 (w3.heap.size+1) (yM Tryd.f84 84 a.tmps w3.heap.size .exhausted)) (ac ql Tryd.prog) (.inr ho)).1
  rw[hG.get (d:=32) rfl]at m3
  refine Rn.op hG 8 (.assign (.tmp 32)) (by decide) (by kernel_rfl) (by simp) m3 λa4 hG=> ?_
  refine Rn.p rfl (Rn.ends rfl (.inr ⟨_,rfl⟩) (Rn.take (ds:=[]) hG.defers hC6.list (Rn.now ⟨⟨a4.tmps,[]⟩,_, .string ⟨(gR KS (iE s i) (ck n- j) j link.data.toList).toArray⟩,rfl,rfl,hG.slot 8 _ rfl, ?_,hC6.old.trans (kN _ _ (by omega))⟩)))
  unfold iZ
  rw[hn,Int.toNat_natCast,Int.toNat_natCast]
 ·by_cases q0:e=0
  ·subst q0;exact he
  by_cases q2:e=2
  ·subst q2;exact he
  by_cases q4:e=4
  ·subst q4;exact he
  simp[List.lookup,show(e==0)=false from by simpa using q0,show(e==2)=false from by simpa using q2,show(e==4)=false from by simpa using q4]at he
end
end Go.Proofs.YtkmoglhgkcnalaaDoor.L1
namespace Go.Proofs.YtkmoglhgkcnalaaDoor.L1
open Go Go.Conc Go.RowKit Go.Proofs.YtkmoglhgkcnalaaDoor
section
variable{w:World}{ev:Operand->Value}{o:Oper}{x:Operand}{v:Value}
def EG(P:Program)(ev:Operand->Value)(o:Oper)(w:World):Prop:=∃x w',(execOp ev o).run P w= .halt x w'/\((∃s,x= .stuck s)\/(∃v,x= .panic v)\/x= .unsupported .addressObserved)
theorem B7{n:Nat}(hop:o.op=gX n)(hx:ev (.tmp n)=v):(∃s:ByteArray,v= .string s/\(execOp ev o).run (ac true Tryd.prog) w= .ok (.value (.int .i64 s.size)) w)\/EG (ac true Tryd.prog) ev o w:=by
 have hu:(ac true Tryd.prog).underlying 9=some .string:=by kernel_rfl
 cases v with
 |string s=>exact .inl ⟨s,rfl,by simp[execOp,hop,gX,resolve,hx,invoke,builtin,Builtin.len_,run_underlying hu,goInt]⟩
 |_=>exact .inr ⟨_,w,by simp[execOp,hop,gX,resolve,hx,invoke,builtin,Builtin.len_,run_underlying hu];rfl, .inl ⟨_,rfl⟩⟩
theorem B0{n:Nat}{c:Int}(hop:o.op=fh n c)(hx:ev (.tmp n)=v)(hc:ev (.const (.int .i64 c))= .int .i64 c):(∃m:Int,v= .int .i64 m/\(execOp ev o).run (ac true Tryd.prog) w= .ok (.value (.bool (decide (m<c)))) w)\/EG (ac true Tryd.prog) ev o w:=by
 cases v with
 |int k m=>
  by_cases hk:k= .i64
  ·subst hk
   exact .inl ⟨m,rfl,(cQ hop hx hc).1⟩
  ·exact .inr ⟨_,w,by simp[execOp,hop,fh,hx,hc,eqGuard,binOp,hk];rfl, .inl ⟨_,rfl⟩⟩
 |pointer p=>exact .inr ⟨.unsupported .addressObserved,w,by simp[execOp,hop,fh,hx,hc,eqGuard,binOp], .inr (.inr rfl)⟩
 |_=>exact .inr ⟨_,w,by simp[execOp,hop,fh,hx,hc,eqGuard,binOp];rfl, .inl ⟨_,rfl⟩⟩
end
theorem Gv{cs:Array Value}(h:12<=cs.size):∃c0 c1 c2 c3 c4 c5 c6 c7 c8 c9 c10 c11 r,cs=(c0::c1::c2::c3::c4::c5::c6::c7::c8::c9::c10::c11::r:List Value).toArray:=by
 obtain⟨l⟩:=cs
 match l,h with
 |c0::c1::c2::c3::c4::c5::c6::c7::c8::c9::c10::c11::r,_=>exact⟨c0,c1,c2,c3,c4,c5,c6,c7,c8,c9,c10,c11,r,rfl⟩
section
variable{w:World}{ev:Operand->Value}{o:Oper}{x:Operand}{v:Value}
theorem yq(hop:o.op= .field 82 x 4)(hx:ev x=v):(∃cs:Array Value,v= .agg cs/\12<=cs.size/\∃u,(execOp ev o).run (ac true Tryd.prog) w= .ok (.value u) w)\/EG (ac true Tryd.prog) ev o w:=by
 have hs:∃fs,(ac true Tryd.prog).underlying 82=some (.struct fs)/\∃f,fs[4]?=some f/\f.type=9/\f.offset=11:=⟨_,(bj _).trans Tryd.underlying82,_,rfl,rfl,rfl⟩
 obtain⟨fs,hu,f,hf,ht,ho⟩:=hs
 have ha:(isAgg 9).run (ac true Tryd.prog) w= .ok false w:=by kernel_rfl
 cases v with
 |agg cs=>
  by_cases h:12<=cs.size
  ·refine .inl ⟨cs,rfl,h,cs[11], ?_⟩
   simp[execOp,hop,hx,Instr.field,run_underlying hu,hf,part,asAgg,ht,ho,ha,Array.getElem?_eq_getElem (show 11<cs.size by omega)]
  ·refine .inr ⟨.stuck "part: no such cell",w, ?_, .inl ⟨_,rfl⟩⟩
   simp[execOp,hop,hx,Instr.field,run_underlying hu,hf,part,asAgg,ht,ho,ha,Array.getElem?_eq_none (show cs.size<=11 by omega)]
 |_=>exact .inr ⟨_,w,by simp[execOp,hop,hx,Instr.field,run_underlying hu,hf,asAgg];rfl, .inl ⟨_,rfl⟩⟩
end
section
variable{w:World}{ev:Operand->Value}{o:Oper}{x:Operand}{c0 c1 c2 c3 c4 c5 c6 c7 c8 c9 c10 c11:Value}
theorem L2(hop:o.op= .field 82 x 0)(hx:ev x= .agg #[c0,c1,c2,c3,c4,c5,c6,c7,c8,c9,c10,c11]):(execOp ev o).run (ac true Tryd.prog) w= .ok (.value (.agg #[c0,c1,c2,c3,c4,c5,c6,c7])) w:=by
 have e:execOp ev o=(do pure (.value (←Instr.field 82 (.agg #[c0,c1,c2,c3,c4,c5,c6,c7,c8,c9,c10,c11]) 0))):=by simp only[execOp,hop,hx]
 have h2:(do pure (.value (←Instr.field 82 (.agg #[c0,c1,c2,c3,c4,c5,c6,c7,c8,c9,c10,c11]) 0)):Sem Next).run (ac true Tryd.prog) w= .ok (.value (.agg #[c0,c1,c2,c3,c4,c5,c6,c7])) w:=by kernel_rfl
 rw[e,h2]
theorem L0(hop:o.op= .field 82 x 1)(hx:ev x= .agg #[c0,c1,c2,c3,c4,c5,c6,c7,c8,c9,c10,c11]):(execOp ev o).run (ac true Tryd.prog) w= .ok (.value c8) w:=by
 have e:execOp ev o=(do pure (.value (←Instr.field 82 (.agg #[c0,c1,c2,c3,c4,c5,c6,c7,c8,c9,c10,c11]) 1))):=by simp only[execOp,hop,hx]
 have h2:(do pure (.value (←Instr.field 82 (.agg #[c0,c1,c2,c3,c4,c5,c6,c7,c8,c9,c10,c11]) 1)):Sem Next).run (ac true Tryd.prog) w= .ok (.value c8) w:=by kernel_rfl
 rw[e,h2]
theorem KZ(hop:o.op= .field 82 x 2)(hx:ev x= .agg #[c0,c1,c2,c3,c4,c5,c6,c7,c8,c9,c10,c11]):(execOp ev o).run (ac true Tryd.prog) w= .ok (.value c9) w:=by
 have e:execOp ev o=(do pure (.value (←Instr.field 82 (.agg #[c0,c1,c2,c3,c4,c5,c6,c7,c8,c9,c10,c11]) 2))):=by simp only[execOp,hop,hx]
 have h2:(do pure (.value (←Instr.field 82 (.agg #[c0,c1,c2,c3,c4,c5,c6,c7,c8,c9,c10,c11]) 2)):Sem Next).run (ac true Tryd.prog) w= .ok (.value c9) w:=by kernel_rfl
 rw[e,h2]
theorem KY(hop:o.op= .field 82 x 3)(hx:ev x= .agg #[c0,c1,c2,c3,c4,c5,c6,c7,c8,c9,c10,c11]):(execOp ev o).run (ac true Tryd.prog) w= .ok (.value c10) w:=by
 have e:execOp ev o=(do pure (.value (←Instr.field 82 (.agg #[c0,c1,c2,c3,c4,c5,c6,c7,c8,c9,c10,c11]) 3))):=by simp only[execOp,hop,hx]
 have h2:(do pure (.value (←Instr.field 82 (.agg #[c0,c1,c2,c3,c4,c5,c6,c7,c8,c9,c10,c11]) 3)):Sem Next).run (ac true Tryd.prog) w= .ok (.value c10) w:=by kernel_rfl
 rw[e,h2]
theorem KF(hop:o.op= .field 82 x 4)(hx:ev x= .agg #[c0,c1,c2,c3,c4,c5,c6,c7,c8,c9,c10,c11]):(execOp ev o).run (ac true Tryd.prog) w= .ok (.value c11) w:=by
 have e:execOp ev o=(do pure (.value (←Instr.field 82 (.agg #[c0,c1,c2,c3,c4,c5,c6,c7,c8,c9,c10,c11]) 4))):=by simp only[execOp,hop,hx]
 have h2:(do pure (.value (←Instr.field 82 (.agg #[c0,c1,c2,c3,c4,c5,c6,c7,c8,c9,c10,c11]) 4)):Sem Next).run (ac true Tryd.prog) w= .ok (.value c11) w:=by kernel_rfl
 rw[e,h2]
theorem Lh(hop:o.op= .field 78 x 0)(hx:ev x= .agg #[c0,c1,c2,c3,c4,c5,c6,c7]):(execOp ev o).run (ac true Tryd.prog) w= .ok (.value c0) w:=by
 have e:execOp ev o=(do pure (.value (←Instr.field 78 (.agg #[c0,c1,c2,c3,c4,c5,c6,c7]) 0))):=by simp only[execOp,hop,hx]
 have h2:(do pure (.value (←Instr.field 78 (.agg #[c0,c1,c2,c3,c4,c5,c6,c7]) 0)):Sem Next).run (ac true Tryd.prog) w= .ok (.value c0) w:=by kernel_rfl
 rw[e,h2]
theorem Le(hop:o.op= .field 78 x 1)(hx:ev x= .agg #[c0,c1,c2,c3,c4,c5,c6,c7]):(execOp ev o).run (ac true Tryd.prog) w= .ok (.value c1) w:=by
 have e:execOp ev o=(do pure (.value (←Instr.field 78 (.agg #[c0,c1,c2,c3,c4,c5,c6,c7]) 1))):=by simp only[execOp,hop,hx]
 have h2:(do pure (.value (←Instr.field 78 (.agg #[c0,c1,c2,c3,c4,c5,c6,c7]) 1)):Sem Next).run (ac true Tryd.prog) w= .ok (.value c1) w:=by kernel_rfl
 rw[e,h2]
theorem Ld(hop:o.op= .field 78 x 2)(hx:ev x= .agg #[c0,c1,c2,c3,c4,c5,c6,c7]):(execOp ev o).run (ac true Tryd.prog) w= .ok (.value c2) w:=by
 have e:execOp ev o=(do pure (.value (←Instr.field 78 (.agg #[c0,c1,c2,c3,c4,c5,c6,c7]) 2))):=by simp only[execOp,hop,hx]
 have h2:(do pure (.value (←Instr.field 78 (.agg #[c0,c1,c2,c3,c4,c5,c6,c7]) 2)):Sem Next).run (ac true Tryd.prog) w= .ok (.value c2) w:=by kernel_rfl
 rw[e,h2]
theorem Lc(hop:o.op= .field 78 x 3)(hx:ev x= .agg #[c0,c1,c2,c3,c4,c5,c6,c7]):(execOp ev o).run (ac true Tryd.prog) w= .ok (.value c3) w:=by
 have e:execOp ev o=(do pure (.value (←Instr.field 78 (.agg #[c0,c1,c2,c3,c4,c5,c6,c7]) 3))):=by simp only[execOp,hop,hx]
 have h2:(do pure (.value (←Instr.field 78 (.agg #[c0,c1,c2,c3,c4,c5,c6,c7]) 3)):Sem Next).run (ac true Tryd.prog) w= .ok (.value c3) w:=by kernel_rfl
 rw[e,h2]
theorem La(hop:o.op= .field 78 x 4)(hx:ev x= .agg #[c0,c1,c2,c3,c4,c5,c6,c7]):(execOp ev o).run (ac true Tryd.prog) w= .ok (.value c4) w:=by
 have e:execOp ev o=(do pure (.value (←Instr.field 78 (.agg #[c0,c1,c2,c3,c4,c5,c6,c7]) 4))):=by simp only[execOp,hop,hx]
 have h2:(do pure (.value (←Instr.field 78 (.agg #[c0,c1,c2,c3,c4,c5,c6,c7]) 4)):Sem Next).run (ac true Tryd.prog) w= .ok (.value c4) w:=by kernel_rfl
 rw[e,h2]
theorem L9(hop:o.op= .field 78 x 5)(hx:ev x= .agg #[c0,c1,c2,c3,c4,c5,c6,c7]):(execOp ev o).run (ac true Tryd.prog) w= .ok (.value c5) w:=by
 have e:execOp ev o=(do pure (.value (←Instr.field 78 (.agg #[c0,c1,c2,c3,c4,c5,c6,c7]) 5))):=by simp only[execOp,hop,hx]
 have h2:(do pure (.value (←Instr.field 78 (.agg #[c0,c1,c2,c3,c4,c5,c6,c7]) 5)):Sem Next).run (ac true Tryd.prog) w= .ok (.value c5) w:=by kernel_rfl
 rw[e,h2]
theorem L8(hop:o.op= .field 78 x 6)(hx:ev x= .agg #[c0,c1,c2,c3,c4,c5,c6,c7]):(execOp ev o).run (ac true Tryd.prog) w= .ok (.value c6) w:=by
 have e:execOp ev o=(do pure (.value (←Instr.field 78 (.agg #[c0,c1,c2,c3,c4,c5,c6,c7]) 6))):=by simp only[execOp,hop,hx]
 have h2:(do pure (.value (←Instr.field 78 (.agg #[c0,c1,c2,c3,c4,c5,c6,c7]) 6)):Sem Next).run (ac true Tryd.prog) w= .ok (.value c6) w:=by kernel_rfl
 rw[e,h2]
theorem L6(hop:o.op= .field 78 x 7)(hx:ev x= .agg #[c0,c1,c2,c3,c4,c5,c6,c7]):(execOp ev o).run (ac true Tryd.prog) w= .ok (.value c7) w:=by
 have e:execOp ev o=(do pure (.value (←Instr.field 78 (.agg #[c0,c1,c2,c3,c4,c5,c6,c7]) 7))):=by simp only[execOp,hop,hx]
 have h2:(do pure (.value (←Instr.field 78 (.agg #[c0,c1,c2,c3,c4,c5,c6,c7]) 7)):Sem Next).run (ac true Tryd.prog) w= .ok (.value c7) w:=by kernel_rfl
 rw[e,h2]
theorem Do{b:Nat}{r:List Value}(hop:o.op= .load 82 x)(hx:ev x= .pointer (some ⟨b,0,none⟩))(h:w.heap[b]?=some (.cells (c0::c1::c2::c3::c4::c5::c6::c7::c8::c9::c10::c11::r:List Value).toArray 82)):(execOp ev o).run (ac true Tryd.prog) w= .ok (.value (.agg #[c0,c1,c2,c3,c4,c5,c6,c7,c8,c9,c10,c11])) w:=by
 have h1:(isAgg 82).run (ac true Tryd.prog) w= .ok true w:=by kernel_rfl
 have hc:=am h
 simp[execOp,hop,hx,Instr.loadAt,loadVar,h1,loadCells,loadCellsFrom,Addr.add,hc,go_sem]
end
theorem CG{args:Array Value}{k i:Nat}{v:Value}(h:(args++Array.replicate k undef)[i]?=some v)(hv:v≠undef):args[i]?=some v:=by
 by_cases hi:i<args.size
 ·rwa [Array.getElem?_append_left hi]at h
 ·rw[Array.getElem?_append_right (by omega),Array.getElem?_replicate]at h
  split at h
  ·cases h
   exact absurd rfl hv
  ·cases h
section
variable{Stop:Goroutine->World->Prop}(hS:∀g w,Stop g w->g.frame.mode= .returning/\g.callers=[]){Q:Prop}{g0:Goroutine}{w0:World}{b:Frame}{a:Act}{k:List Item}{cs:List Frame}{w:World}{F:List (Nat×Value)}{N:Nat}{ds:List Deferred}{ops:Array Oper}{m:Nat}{rest:List Nat}
include hS
theorem mA(hF:aM F N ds a)(d x:Nat){v:Value}(hd:d<N)(hx:F.lookup x=some v)(h:(ops[m]?).map (λo=>(o.dst,o.op,o.guard))=some (some d,gX x,none))
 (next:∀s:ByteArray,v= .string s->∀a',aM ((d, .int .i64 s.size)::F) N ds a'->Tk (ac true Tryd.prog) Stop Q g0 w0 (b.atR a' (.inRegion ops rest::k)) cs w):Tk (ac true Tryd.prog) Stop Q g0 w0 (b.atR a (.inRegion ops (m::rest)::k)) cs w:=by
 cases ho:ops[m]? with
 |none=>rw[ho]at h;simp at h
 |some o=>
  obtain⟨e1,e2,e3⟩:=aJ ho h
  have hnd:∀c,o.op≠ .defer c:=λc=>by rw[e2];simp[gX]
  rcases B7 (w:=w) e2 (hF.get hx)with⟨s,hs,hr⟩|⟨x,w',hr,hx⟩
  ·refine Tk.ran hS ho (e3 _) hnd hr ?_
   rw[e1]
   exact next s hs _ (hF.put hd _)
  ·exact Tk.stuck hS ho (e3 _) hnd hr hx
theorem iu(hF:aM F N ds a)(d x:Nat)(c:Int){v:Value}(hd:d<N)(hx:F.lookup x=some v)(h:(ops[m]?).map (λo=>(o.dst,o.op,o.guard))=some (some d,fh x c,none))
 (next:∀i:Int,v= .int .i64 i->∀a',aM ((d, .bool (decide (i<c)))::F) N ds a'->Tk (ac true Tryd.prog) Stop Q g0 w0 (b.atR a' (.inRegion ops rest::k)) cs w):Tk (ac true Tryd.prog) Stop Q g0 w0 (b.atR a (.inRegion ops (m::rest)::k)) cs w:=by
 cases ho:ops[m]? with
 |none=>rw[ho]at h;simp at h
 |some o=>
  obtain⟨e1,e2,e3⟩:=aJ ho h
  have hnd:∀c,o.op≠ .defer c:=λc=>by rw[e2];simp[fh]
  rcases B0 (w:=w) e2 (hF.get hx) rfl with⟨s,hs,hr⟩|⟨x,w',hr,hx⟩
  ·refine Tk.ran hS ho (e3 _) hnd hr ?_
   rw[e1]
   exact next s hs _ (hF.put hd _)
  ·exact Tk.stuck hS ho (e3 _) hnd hr hx
theorem F5(hF:aM F N ds a)(d x:Nat){v:Value}(hd:d<N)(hx:F.lookup x=some v)(h:(ops[m]?).map (λo=>(o.dst,o.op,o.guard))=some (some d, .field 82 (.tmp x) 4,none))
 (next:∀cells:Array Value,v= .agg cells->12<=cells.size->∀a' u,aM ((d,u)::F) N ds a'->Tk (ac true Tryd.prog) Stop Q g0 w0 (b.atR a' (.inRegion ops rest::k)) cs w):Tk (ac true Tryd.prog) Stop Q g0 w0 (b.atR a (.inRegion ops (m::rest)::k)) cs w:=by
 cases ho:ops[m]? with
 |none=>rw[ho]at h;simp at h
 |some o=>
  obtain⟨e1,e2,e3⟩:=aJ ho h
  have hnd:∀c,o.op≠ .defer c:=λc=>by rw[e2];simp
  rcases yq (w:=w) e2 (hF.get hx)with⟨s,hs,h12,u,hr⟩|⟨x,w',hr,hx⟩
  ·refine Tk.ran hS ho (e3 _) hnd hr ?_
   rw[e1]
   exact next s hs h12 _ u (hF.put hd _)
  ·exact Tk.stuck hS ho (e3 _) hnd hr hx
theorem vj{q:Bool}{x:Nat}(hF:aM F N ds a)(hx:F.lookup x=some (.bool q))(next:q=true→Tk (ac true Tryd.prog) Stop Q g0 w0 (b.atR a k) cs w):Tk (ac true Tryd.prog) Stop Q g0 w0 (b.atR a (.code (.cond (.tmp x) .skip (.refuse ""))::k)) cs w:=by
 refine Tk.cond hS q (hF.get hx) ?_
 cases q with
 |true=>exact Tk.plain hS rfl (next rfl)
 |false=>exact Tk.refuse hS
theorem lS{q:Bool}{x:Nat}(hF:aM F N ds a)(hx:F.lookup x=some (.bool q))(next:q=false→Tk (ac true Tryd.prog) Stop Q g0 w0 (b.atR a k) cs w):Tk (ac true Tryd.prog) Stop Q g0 w0 (b.atR a (.code (.cond (.tmp x) (.refuse "") .skip)::k)) cs w:=by
 refine Tk.cond hS q (hF.get hx) ?_
 cases q with
 |false=>exact Tk.plain hS rfl (next rfl)
 |true=>exact Tk.refuse hS
theorem Kw{v0 v1:Value}(hF:aM [(0,v0),(1,v1)] 36 [] a)
 (next:∀(s:cq) (ex:List Value) (a':Act),v0= .agg (s.cells++ex.toArray)->1<=s.count->s.count<65537->0<=s.width/\s.width<9->0<=s.q/\s.q<4294967296->s.id.size<65536->aM [(1,v1),(3, .agg s.cells),(10, .int .i64 s.count),(13, .string s.links)] 36 [] a'->
   Tk (ac true Tryd.prog) Stop Q g0 w0 (b.atR a' (.code (.seq (.region 1 Kz false) (.seq (.block 0 (.loop mF)) (.seq (.region 5 Ky false) .ret)))::k)) cs (w.alloc (.cells (s.cells++ex.toArray) 82))):
 Tk (ac true Tryd.prog) Stop Q g0 w0 (b.atR a (.code ll::k)) cs w:=by
 refine Tk.plain hS rfl (Tk.region hS (L:=[0,1,2,3,4,5,6,7,8,9,10,11,12,13,14,15,16,17,18,19,20,21,22,23,24,25,26,27,28,29,30,31]) rfl ?_)
 refine F5 hS hF 6 0 (by decide) rfl rfl λcells hcells h12 a u hF=> ?_
 obtain⟨c0,c1,c2,c3,c4,c5,c6,c7,c8,c9,c10,c11,r,rfl⟩:=Gv h12
 refine Tk.op hS hF 2 (.box 82 (.tmp 0)) (by decide) rfl (by simp) (v:= .pointer (some ⟨w.heap.size,0,none⟩)) (w':=w.alloc (.cells (c0::c1::c2::c3::c4::c5::c6::c7::c8::c9::c10::c11::r:List Value).toArray 82)) (λo ho=> ?_) λa hF=> ?_
 ·have h:=(lx (ac true Tryd.prog) (w:=w) (ev:=a.eval) ho).1
  rw[hF.get (d:=0) rfl,hcells]at h
  exact h
 have hat:=aC w (.cells (c0::c1::c2::c3::c4::c5::c6::c7::c8::c9::c10::c11::r:List Value).toArray 82)
 refine Tk.op hS hF 3 (.load 82 (.tmp 2)) (by decide) rfl (by simp) (λo ho=>Do ho (hF.get (d:=2) rfl) hat) λa hF=> ?_
 refine Tk.op hS hF 5 (.field 82 (.tmp 3) 0) (by decide) rfl (by simp) (λo ho=>L2 ho (hF.get (d:=3) rfl)) λa hF=> ?_
 refine Tk.op hS hF 6 (.field 78 (.tmp 5) 0) (by decide) rfl (by simp) (λo ho=>Lh ho (hF.get (d:=5) rfl)) λa hF=> ?_
 refine mA hS hF 7 6 (by decide) rfl rfl λs0 e0 a hF=> ?_
 subst e0
 refine Tk.op hS hF 6 (.field 78 (.tmp 5) 1) (by decide) rfl (by simp) (λo ho=>Le ho (hF.get (d:=5) rfl)) λa hF=> ?_
 refine mA hS hF 7 6 (by decide) rfl rfl λs1 e1 a hF=> ?_
 subst e1
 refine Tk.op hS hF 8 (.field 78 (.tmp 5) 2) (by decide) rfl (by simp) (λo ho=>Ld ho (hF.get (d:=5) rfl)) λa hF=> ?_
 refine mA hS hF 9 8 (by decide) rfl rfl λs2 e2 a hF=> ?_
 subst e2
 refine Tk.op hS hF 6 (.field 78 (.tmp 5) 3) (by decide) rfl (by simp) (λo ho=>Lc ho (hF.get (d:=5) rfl)) λa hF=> ?_
 refine mA hS hF 7 6 (by decide) rfl rfl λs3 e3 a hF=> ?_
 subst e3
 refine Tk.op hS hF 6 (.field 78 (.tmp 5) 4) (by decide) rfl (by simp) (λo ho=>La ho (hF.get (d:=5) rfl)) λa hF=> ?_
 refine iu hS hF 7 6 0 (by decide) rfl rfl λi4 e4 a hF=> ?_
 subst e4
 refine Tk.op hS hF 11 (.field 78 (.tmp 5) 5) (by decide) rfl (by simp) (λo ho=>L9 ho (hF.get (d:=5) rfl)) λa hF=> ?_
 refine iu hS hF 16 11 0 (by decide) rfl rfl λi5 e5 a hF=> ?_
 subst e5
 refine Tk.op hS hF 10 (.field 78 (.tmp 5) 6) (by decide) rfl (by simp) (λo ho=>L8 ho (hF.get (d:=5) rfl)) λa hF=> ?_
 refine iu hS hF 15 10 65537 (by decide) rfl rfl λi6 e6 a hF=> ?_
 subst e6
 refine Tk.op hS hF 6 (.field 78 (.tmp 5) 7) (by decide) rfl (by simp) (λo ho=>L6 ho (hF.get (d:=5) rfl)) λa hF=> ?_
 refine iu hS hF 7 6 0 (by decide) rfl rfl λi7 e7 a hF=> ?_
 subst e7
 refine Tk.op hS hF 12 (.field 82 (.tmp 3) 1) (by decide) rfl (by simp) (λo ho=>L0 ho (hF.get (d:=3) rfl)) λa hF=> ?_
 refine iu hS hF 18 12 0 (by decide) rfl rfl λi8 e8 a hF=> ?_
 subst e8
 refine Tk.op hS hF 6 (.field 82 (.tmp 3) 2) (by decide) rfl (by simp) (λo ho=>KZ ho (hF.get (d:=3) rfl)) λa hF=> ?_
 refine mA hS hF 7 6 (by decide) rfl rfl λs9 e9 a hF=> ?_
 subst e9
 refine Tk.op hS hF 13 (.field 82 (.tmp 3) 3) (by decide) rfl (by simp) (λo ho=>KY ho (hF.get (d:=3) rfl)) λa hF=> ?_
 refine mA hS hF 7 13 (by decide) rfl rfl λs10 e10 a hF=> ?_
 subst e10
 refine Tk.op hS hF 6 (.field 82 (.tmp 3) 4) (by decide) rfl (by simp) (λo ho=>KF ho (hF.get (d:=3) rfl)) λa hF=> ?_
 refine mA hS hF 7 6 (by decide) rfl rfl λs11 e11 a hF=> ?_
 subst e11
 refine iu hS hF 14 10 1 (by decide) rfl rfl λj14 f14 a hF=> ?_
 cases f14
 refine iu hS hF 17 11 9 (by decide) rfl rfl λj17 f17 a hF=> ?_
 cases f17
 refine iu hS hF 19 12 4294967296 (by decide) rfl rfl λj19 f19 a hF=> ?_
 cases f19
 refine iu hS hF 20 9 65536 (by decide) rfl rfl λj20 f20 a hF=> ?_
 cases f20
 refine Tk.plain hS rfl (Tk.plain hS rfl ?_)
 refine lS hS hF (x:=14) rfl λq14=>Tk.plain hS rfl ?_
 refine vj hS hF (x:=15) rfl λq15=>Tk.plain hS rfl ?_
 refine lS hS hF (x:=16) rfl λq16=>Tk.plain hS rfl ?_
 refine vj hS hF (x:=17) rfl λq17=>Tk.plain hS rfl ?_
 refine lS hS hF (x:=18) rfl λq18=>Tk.plain hS rfl ?_
 refine vj hS hF (x:=19) rfl λq19=>Tk.plain hS rfl ?_
 refine vj hS hF (x:=20) rfl λq20=> ?_
 simp only[decide_eq_true_eq,decide_eq_false_iff_not,Int.not_lt]at q14 q15 q16 q17 q18 q19 q20
 obtain⟨n,hn⟩:∃n:Nat,i6=n:=⟨i6.toNat,(Int.toNat_of_nonneg (by omega)).symm⟩
 subst hn
 have hsw:(cq.mk s0 s1 s2 s3 i4 i5 n i7 i8 s9 s10 s11).cells++r.toArray=(.string s0:: .string s1:: .string s2:: .string s3:: .int .i64 i4:: .int .i64 i5:: .int .i64 n:: .int .i64 i7:: .int .i64 i8:: .string s9:: .string s10:: .string s11::r:List Value).toArray:=by simp[cq.cells]
 have hnext:=next ⟨s0,s1,s2,s3,i4,i5,n,i7,i8,s9,s10,s11⟩ r a (hcells.trans (by rw[hsw])) (by show 1<=n;omega) (by show n<65537;omega) ⟨q16,q17⟩ ⟨q18,q19⟩ (by show s2.size<65536;omega)
 rw[hsw]at hnext
 refine hnext ?_
 refine hF.sub λd v hd=> ?_
 by_cases q1:d=1
 ·subst q1;exact hd
 by_cases q3:d=3
 ·subst q3;exact hd
 by_cases q10:d=10
 ·subst q10;exact hd
 by_cases q13:d=13
 ·subst q13;exact hd
 simp[List.lookup,show(d==1)=false from by simpa using q1,show(d==3)=false from by simpa using q3,show(d==10)=false from by simpa using q10,show(d==13)=false from by simpa using q13]at hd
end
section
variable{w:World}{ev:Operand->Value}{o:Oper}{x y:Operand}{v:Value}
theorem Du{t:ByteArray}{n:Nat}(hop:o.op= .slice 9 x none (some y) none)(hx:ev x= .string t)(hy:ev y= .int .i64 n):(n<=t.size/\(execOp ev o).run (ac true Tryd.prog) w= .ok (.value (.string (t.extract 0 n))) w)\/EG (ac true Tryd.prog) ev o w:=by
 have hu:(ac true Tryd.prog).underlying 9=some .string:=by kernel_rfl
 by_cases h:n<=t.size
 ·exact .inl ⟨h,by simp[execOp,hop,hx,hy,Instr.sliceAt,Instr.slice,Instr.sliceBounds,run_underlying hu,Instr.sliceBound,asIntOf,h]⟩
 ·right
  obtain⟨s,w',hb⟩:=run_boundsPanic (P:=ac true Tryd.prog) (w:=w) (α:=Nat) .i64 n t.size .sliceAlen
  exact⟨_,w',by simp[execOp,hop,hx,hy,Instr.sliceAt,Instr.slice,Instr.sliceBounds,run_underlying hu,Instr.sliceBound,asIntOf,h,hb];rfl, .inr (.inl ⟨_,rfl⟩)⟩
theorem wq{n:Nat}(hop:o.op= .indexAddr 22 x y)(hx:ev x=v)(hy:ev y= .int .i64 n):(∃a len cap,v= .slice (some a) len cap/\n<len/\(execOp ev o).run (ac true Tryd.prog) w= .ok (.value (.pointer (some (a.add n)))) w)\/EG (ac true Tryd.prog) ev o w:=by
 have hu:(ac true Tryd.prog).underlying 22=some (.slice 3):=by kernel_rfl
 have hz:∀w:World,(sizeOf 3).run (ac true Tryd.prog) w= .ok 1 w:=λw=>by kernel_rfl
 cases v with
 |slice a len cap=>
  cases a with
  |none=>
   right
   obtain⟨s,w',hb⟩:=run_boundsPanic (P:=ac true Tryd.prog) (w:=w) (α:=Value) .i64 n 0 .index
   exact⟨_,w',by simp[execOp,hop,hx,hy,Instr.indexAt,run_underlying hu,asIntOf,hb];rfl, .inr (.inl ⟨_,rfl⟩)⟩
  |some a=>
   by_cases h:n<len
   ·exact .inl ⟨a,len,cap,rfl,h,(gp (w:=w) hu hz hop hx hy h).1⟩
   ·right
    obtain⟨s,w',hb⟩:=run_boundsPanic (P:=ac true Tryd.prog) (w:=w) (α:=Value) .i64 n len .index
    exact⟨_,w',by simp[execOp,hop,hx,hy,Instr.indexAt,run_underlying hu,asIntOf,h,hb];rfl, .inr (.inl ⟨_,rfl⟩)⟩
 |_=>exact .inr ⟨_,w,by simp[execOp,hop,hx,hy,Instr.indexAt,run_underlying hu,asIntOf];rfl, .inl ⟨_,rfl⟩⟩
theorem B6{a:Addr}{u:Value}{w':World}(h:(Instr.loadAt 3 (.pointer (some a))).run (ac true Tryd.prog) w= .ok u w'):w'=w:=by
 have h1:(isAgg 3).run (ac true Tryd.prog) w= .ok false w:=by kernel_rfl
 simp only[Instr.loadAt,Instr.sureAddr,loadVar,pure_bind,Sem.run_bind,h1,Result.andThen_ok]at h
 simp only[Bool.false_eq_true,↓reduceIte]at h
 unfold load at h
 rw[Sem.run]at h
 split at h
 ·cases h
  rfl
 ·split at h
  ·cases h
   rfl
  ·cases h
theorem yn{a:Addr}(hw:ax w)(hop:o.op= .load 3 x)(hx:ev x= .pointer (some a)):(∃u,(Instr.loadAt 3 (.pointer (some a))).run (ac true Tryd.prog) w= .ok u w/\(execOp ev o).run (ac true Tryd.prog) w= .ok (.value u) w)\/∃h w',(execOp ev o).run (ac true Tryd.prog) w= .halt h w'/\eb h:=by
 have e:execOp ev o=(do pure (.value (←Instr.loadAt 3 (.pointer (some a))))):=by simp only[execOp,hop,hx]
 rw[e]
 cases hr:(Instr.loadAt 3 (.pointer (some a))).run (ac true Tryd.prog) w with
 |ok u w'=>
  obtain rfl:=B6 hr
  exact .inl ⟨u,rfl,by simp[hr]⟩
 |halt h w'=>
  refine .inr ⟨h,w',by simp[hr],eZ (fj (ρ:=id) qI.same 3 (.pointer (some a))) w hw h w' hr⟩
theorem zy{n:Nat}(hn0:0<n)(hn:n<=65536)(hop:o.op= .makeSlice 70 x y)(hx:ev x= .int .i64 n)(hy:ev y= .int .i64 n):
 (execOp ev o).run (ac true Tryd.prog) w= .ok (.value (.slice (some ⟨w.heap.size,0,none⟩) n n)) (w.alloc (.cells (Array.replicate n (.string ⟨#[]⟩)) 9)):=by
 have hu:(ac true Tryd.prog).underlying 70=some (.slice 9):=by kernel_rfl
 have wl:IntKind.i64.wrap (n:Int)=n:=by rw[IntKind.wrap_i64];omega
 have hb:Tryd.t9.bytes=16:=by kernel_rfl
 have n2:¬(281474976710656<16*(n:Int)):=by omega
 have h0:¬n=0:=by omega
 simp[execOp,hop,hx,hy,Instr.makeSlice,run_underlying hu,wl,n2,askRoom,newRow,hb,h0,go_sem]
 refine congrArg (λz=>Result.ok (Next.value (Value.slice (some ⟨w.heap.size,0,none⟩) n n)) (w.alloc (Obj.cells z 9))) (Array.ext (by simp) λi h1 h2=> ?_)
 simp[Nat.mod_one]
end
def uf(KS:List Int)(s:cq)(dig:Nat->Int)(c:Nat):Value:= .string (iZ KS s c (dig c) (s.links.extract (c*32) ((c+1)*32)))
def l6(KS:List Int)(s:cq)(dig:Nat->Int)(n i:Nat):Array Value:=Array.ofFn λc:Fin n=>if c.val<i then uf KS s dig c.val else .string ⟨#[]⟩
def Ll(v1:Value)(wE:World)(dig:Nat->Int)(c:Nat):Prop:=∃ga glen gcap,v1= .slice (some ga) glen gcap/\c<glen/\(0<=dig c/\dig c<256)/\∃wc,Below wE.heap.size wE wc/\(Instr.loadAt 3 (.pointer (some (ga.add c)))).run (ac true Tryd.prog) wc= .ok (.int .i64 (dig c)) wc
theorem wW(KS:List Int)(s:cq)(dig:Nat->Int)(n:Nat):l6 KS s dig n 0=Array.replicate n (.string ⟨#[]⟩):=by
 apply Array.ext
 ·simp[l6]
 ·intro i h1 h2
  simp[l6]
theorem wY(KS:List Int)(s:cq)(dig:Nat->Int)(n:Nat):l6 KS s dig n n=Array.ofFn λc:Fin n=>uf KS s dig c.val:=by
 apply Array.ext
 ·simp[l6]
 ·intro i h1 h2
  simp[l6]
theorem wX{KS:List Int}{s:cq}{dig dig':Nat->Int}{n i:Nat}(h:∀c,c<i->dig' c=dig c):(l6 KS s dig n i).setIfInBounds i (uf KS s dig' i)=l6 KS s dig' n (i+1):=by
 apply Array.ext
 ·simp[l6]
 ·intro j h1 h2
  have hj:j<n:=by simpa[l6]using h2
  rw[Array.getElem_setIfInBounds (by simpa[l6]using hj)]
  simp only[l6,Array.getElem_ofFn]
  by_cases e:i=j
  ·subst e
   simp
  ·rw[if_neg e]
   by_cases hlt:j<i
   ·rw[if_pos hlt,if_pos (by omega)]
    unfold uf
    rw[h j hlt]
   ·rw[if_neg hlt,if_neg (by omega)]
theorem iw{w:World}{b i:Nat}{cs:Array Value}{t:TypeId}{v:Value}(h:w.heap[b]?=some (.cells cs t)):(w.setCell ⟨b,i,none⟩ v).heap[b]?=some (.cells (cs.setIfInBounds i v) t):=by
 simp only[World.setCell]
 rw[Array.getElem?_modify,h]
 simp
theorem Mc{KS:List Int}{w w':World}(h0:0<w.heap.size)(hb:Below w.heap.size w w')(h:w.rangeAt 0 0 (aj KS)):w'.rangeAt 0 0 (aj KS):=λj v hv=>by
 have:=h j v hv
 unfold World.cell? at this⊢
 rw[hb.block 0 h0]
 exact this
section
variable{Stop:Goroutine->World->Prop}(hstop:∀g w,Stop g w->∀τ d,∃o w1 es,stepG (ac true Tryd.prog) true g (jJ w τ d)= .ended o w1 es)(hS:∀g w,Stop g w->g.frame.mode= .returning/\g.callers=[]){Q:Prop}{g0:Goroutine}{w0:World}
 (hq:∀g2 w2,StepsIn (λ_=>True) (ac true Tryd.prog) (solo g0 w0) (solo g2 w2)->ax w2)
 {b:Frame} {k:List Item} {cs:List Frame} {KS:List Int} (hKl:KS.length=64) {wE:World} (hK:wE.rangeAt 0 0 (aj KS)) (h0:0<wE.heap.size) {s:cq} {n bL:Nat} {v1:Value}
 (hn:s.count=n) (hn1:1<=n) (hn2:n<65537) (hwd:0<=s.width/\s.width<9) (hqq:0<=s.q/\s.q<4294967296) (hid:s.id.size<65536) (hlk:n*32<=s.links.size) (hbL:wE.heap.size<=bL)
include hstop hS hq hKl hK h0 hn hn1 hn2 hwd hqq hid hlk hbL
theorem F9(next:∀(dig:Nat->Int) (a:Act) (w:World),(∀c,c<n->Ll v1 wE dig c)->Below wE.heap.size wE w->w.heap[bL]?=some (.cells (l6 KS s dig n n) 9)->aM [(23, .slice (some ⟨bL,0,none⟩) n n)] 36 [] a->Tk (ac true Tryd.prog) Stop Q g0 w0 (b.atR a k) cs w):
 ∀(j i:Nat) (dig:Nat->Int) (a:Act) (w:World),n- i=j->i<=n->(∀c,c<i->Ll v1 wE dig c)->Below wE.heap.size wE w->w.heap[bL]?=some (.cells (l6 KS s dig n i) 9)->
  aM [(1,v1),(3, .agg s.cells),(10, .int .i64 n),(13, .string s.links),(23, .slice (some ⟨bL,0,none⟩) n n),(24, .int .i64 i)] 36 [] a->Tk (ac true Tryd.prog) Stop Q g0 w0 (b.atR a (.code mF:: .inLoop mF:: .inBlock 0::k)) cs w:=by
 intro j
 induction j with
 |zero=>
  intro i dig a w hj hi hdug hbel hlist hF
  have hin:i=n:=by omega
  subst hin
  refine Tk.plain hS rfl (Tk.plain hS rfl (Tk.region hS (L:=[0]) rfl ?_))
  refine Tk.op hS hF 25 (.binOp .lss 3 (.tmp 24) (.tmp 10) 3) (by decide) rfl (by simp) (λo ho=>(cQ ho (hF.get (d:=24) rfl) (hF.get (d:=10) rfl)).1) λa hF=> ?_
  refine Tk.plain hS rfl (Tk.cond hS (decide ((i:Int)<i)) (hF.get (d:=25) rfl) ?_)
  rw[show(decide ((i:Int)<i))=false by simp]
  refine Tk.plain hS rfl (next dig a w hdug hbel hlist (hF.sub λd v hd=> ?_))
  by_cases q1:d=23
  ·subst q1;exact hd
  simp[List.lookup,show(d==23)=false from by simpa using q1]at hd
 |succ j ih=>
  intro i dig a w hj hi hdug hbel hlist hF
  have hin:i<n:=by omega
  refine Tk.plain hS rfl (Tk.plain hS rfl (Tk.region hS (L:=[0]) rfl ?_))
  refine Tk.op hS hF 25 (.binOp .lss 3 (.tmp 24) (.tmp 10) 3) (by decide) rfl (by simp) (λo ho=>(cQ ho (hF.get (d:=24) rfl) (hF.get (d:=10) rfl)).1) λa hF=> ?_
  refine Tk.plain hS rfl (Tk.cond hS (decide ((i:Int)<n)) (hF.get (d:=25) rfl) ?_)
  rw[show(decide ((i:Int)<n))=true by simpa using hin]
  refine Tk.plain hS rfl (Tk.plain hS rfl (Tk.region hS (L:=[0,1,2,3]) rfl ?_))
  refine(wq (w:=w) (ev:=a.eval) (o:=dU (some 26) (.indexAddr 22 (.tmp 1) (.tmp 24))) (x:= .tmp 1) (y:= .tmp 24) (v:=v1) rfl (hF.get (d:=1) rfl) (hF.get (d:=24) rfl)).elim (λ⟨ga,glen,gcap,hv1,hlen,hr⟩=> ?_) λ⟨x,w',hr,hx⟩=>Tk.stuck hS (o:=dU (some 26) (.indexAddr 22 (.tmp 1) (.tmp 24))) rfl rfl (by simp[dU]) hr hx
  refine Tk.ran hS (o:=dU (some 26) (.indexAddr 22 (.tmp 1) (.tmp 24))) rfl rfl (by simp[dU]) hr ?_
  have hF:=hF.put (d:=26) (by decide) (.pointer (some (ga.add i)))
  refine Tk.calm hq λhcalm=> ?_
  refine(yn (w:=w) (ev:=(a.put (some 26) (.pointer (some (ga.add i)))).eval) (o:=dU (some 27) (.load 3 (.tmp 26))) (x:= .tmp 26) hcalm rfl (hF.get (d:=26) rfl)).elim (λ⟨u,hr1,hr2⟩=> ?_) λ⟨x,w',hr,hx⟩=>Tk.dead hS (o:=dU (some 27) (.load 3 (.tmp 26))) rfl rfl (by simp[dU]) hr hx
  refine Tk.ran hS (o:=dU (some 27) (.load 3 (.tmp 26))) rfl rfl (by simp[dU]) hr2 ?_
  have hF:=hF.put (d:=27) (by decide) u
  refine iu hS hF 28 27 0 (by decide) rfl rfl λd e a hF=> ?_
  subst e
  refine iu hS hF 29 27 256 (by decide) rfl rfl λd2 e a hF=> ?_
  cases e
  refine Tk.plain hS rfl (Tk.plain hS rfl ?_)
  refine lS hS hF (x:=28) rfl λq28=>Tk.plain hS rfl ?_
  refine vj hS hF (x:=29) rfl λq29=> ?_
  simp only[decide_eq_true_eq,decide_eq_false_iff_not,Int.not_lt]at q28 q29
  refine Tk.region hS (L:=[0,1,2,3,4,5,6,7]) rfl ?_
  refine Tk.op hS hF 30 (.binOp .mul 3 (.tmp 24) (.const (.int .i64 32)) 3) (by decide) rfl (by simp) (λo ho=>(dA ho (hF.get (d:=24) rfl) rfl (by omega)).1) λa hF=> ?_
  refine Tk.op hS hF 31 (.binOp .add 3 (.tmp 24) (.const (.int .i64 1)) 3) (by decide) rfl (by simp) (λo ho=>(lc ho (hF.get (d:=24) rfl) rfl (by omega)).1) λa hF=> ?_
  refine Tk.op hS hF 32 (.binOp .mul 3 (.tmp 31) (.const (.int .i64 32)) 3) (by decide) rfl (by simp) (λo ho=>(dA ho (hF.get (d:=31) rfl) rfl (by omega)).1) λa hF=> ?_
  have g30:a.eval (.tmp 30)= .int .i64 ((i*32:Nat):Int):=(hF.get (d:=30) rfl).trans (by rw[Int.natCast_mul];rfl)
  have g32:a.eval (.tmp 32)= .int .i64 (((i+1)*32:Nat):Int):=(hF.get (d:=32) rfl).trans (by rw[Int.natCast_mul,Int.natCast_add];rfl)
  refine Tk.op hS hF 33 (.slice 9 (.tmp 13) (some (.tmp 30)) (some (.tmp 32)) none) (by decide) rfl (by simp) (λo ho=>(cN ho (hF.get (d:=13) rfl) g30 g32 (by omega) (by omega)).1) λa hF=> ?_
  have hfine:zg s i d (s.links.extract (i*32) ((i+1)*32)):=⟨hwd,hqq,hid,by omega,⟨q28,q29⟩,by rw[ByteArray.size_extract];omega⟩
  have hcall:(execOp a.eval (dU (some 34) (.call {callee:= .value (.func 84),args:=#[.tmp 3, .tmp 24, .tmp 27, .tmp 33],argTypes:=#[82,3,3,9]}))).run (ac true Tryd.prog) w= .ok (.enter 84 #[.agg s.cells, .int .i64 i, .int .i64 d, .string (s.links.extract (i*32) ((i+1)*32))]) w:=
   (az (w:=w) (o:=dU (some 34) _) rfl (by simp[hF.get (d:=3) rfl,hF.get (d:=24) rfl,hF.get (d:=27) rfl,hF.get (d:=33) rfl]) (aE (P:=ac true Tryd.prog) Lf.func84 (by kernel_rfl) (by kernel_rfl) _)).1
  refine Tk.call hstop hS (o:=dU (some 34) _) rfl rfl (by simp[dU]) hcall (R:=λv w'=>v= .string (iZ KS s i d (s.links.extract (i*32) ((i+1)*32)))/\Below w.heap.size w w') (λcs=> ?_) λv w2 hv=> ?_
  ·obtain⟨e,w',fr,⟨q1,q2⟩,q3⟩:=zK KS s i d _ hfine w (Mc h0 hbel hK) hKl (Nat.lt_of_lt_of_le h0 hbel.size) cs
   exact⟨e,w',fr,⟨_,q1,rfl,q2⟩,q3⟩
  obtain⟨rfl,hbel2⟩:=hv
  have hF:=hF.put (d:=34) (by decide) (.string (iZ KS s i d (s.links.extract (i*32) ((i+1)*32))))
  have hlist2:=(hbel2.block bL (gA hlist).1).trans hlist
  have hix:=(gp (ql:=true) (w:=w2) (ev:=(a.put (dU (some 34) (.call {callee:= .value (.func 84),args:=#[.tmp 3, .tmp 24, .tmp 27, .tmp 33],argTypes:=#[82,3,3,9]})).dst (.string (iZ KS s i d (s.links.extract (i*32) ((i+1)*32))))).eval) (o:=dU (some 35) (.indexAddr 70 (.tmp 23) (.tmp 24))) (t:=70) (e:=9) (by kernel_rfl) (λw=>by kernel_rfl) rfl (hF.get (d:=23) rfl) (hF.get (d:=24) rfl) hin).1
  refine Tk.ran hS (o:=dU (some 35) (.indexAddr 70 (.tmp 23) (.tmp 24))) rfl rfl (by simp[dU]) hix ?_
  have hF:=hF.put (d:=35) (by decide) (.pointer (some ((⟨bL,0,none⟩:Addr).add i)))
  have hst:=(eX (ql:=true) (w:=w2) (ev:=((a.put (some 34) (.string (iZ KS s i d (s.links.extract (i*32) ((i+1)*32))))).put (some 35) (.pointer (some ((⟨bL,0,none⟩:Addr).add i)))).eval) (o:=dU none (.store 9 (.tmp 35) (.tmp 34))) (t:=9) (b:=bL) (k:=i) (v:= .string (iZ KS s i d (s.links.extract (i*32) ((i+1)*32)))) (v0:= .string ⟨#[]⟩) rfl rfl (by kernel_rfl) rfl
   ((hF.get (d:=35) rfl).trans (by rw[nb,Nat.zero_add])) (hF.get (d:=34) rfl) (by rw[am hlist2];simp[l6,hin]) (by simp[World.frozen?,hlist2])).1
  refine Tk.did hS (o:=dU none (.store 9 (.tmp 35) (.tmp 34))) rfl rfl (by simp[dU]) hst ?_
  have hmv:=λ(o:Oper) (ho:o.op= .move (.tmp 31))=>(bz (w:=w2.setCell ⟨bL,i,none⟩ (.string (iZ KS s i d (s.links.extract (i*32) ((i+1)*32))))) (ev:=((a.put (some 34) (.string (iZ KS s i d (s.links.extract (i*32) ((i+1)*32))))).put (some 35) (.pointer (some ((⟨bL,0,none⟩:Addr).add i)))).eval) (ac true Tryd.prog) (.inl ho)).1
  rw[hF.get (d:=31) rfl]at hmv
  refine Tk.op hS hF 24 (.move (.tmp 31)) (by decide) rfl (by simp) hmv λa hF=> ?_
  refine Tk.plain hS rfl (Tk.plain hS rfl ?_)
  have hsame:∀c,c<i->(λc=>if c=i then d else dig c) c=dig c:=λc hc=>by dsimp only;rw[if_neg (by omega)]
  refine ih (i+1) (λc=>if c=i then d else dig c) a _ (by omega) (by omega) (λc hc=> ?_) ((ah hbel hbel.size hbel2).trans (dw _ _ _ hbL)) ?_ (hF.sub λe v he=> ?_)
  ·by_cases hci:c=i
   ·subst hci
    exact⟨ga,glen,gcap,hv1,hlen,by simpa using⟨q28,q29⟩,w,hbel,by simpa using hr1⟩
   ·obtain⟨ga',glen',gcap',x1,x2,x3,wc,x4,x5⟩:=hdug c (by omega)
    exact⟨ga',glen',gcap',x1,x2,by dsimp only;rw[if_neg hci];exact x3,wc,x4,by dsimp only;rw[if_neg hci];exact x5⟩
  ·rw[iw hlist2,←wX hsame]
   unfold uf
   simp
  ·by_cases e24:e=24
   ·subst e24
    have he':some (.int .i64 ((i+1:Nat):Int))=some v:=he
    rw[←he',Int.natCast_add]
    rfl
   by_cases e1:e=1
   ·subst e1;exact he
   by_cases e3:e=3
   ·subst e3;exact he
   by_cases e10:e=10
   ·subst e10;exact he
   by_cases e13:e=13
   ·subst e13;exact he
   by_cases e23:e=23
   ·subst e23;exact he
   simp[List.lookup,show(e==24)=false from by simpa using e24,show(e==1)=false from by simpa using e1,show(e==3)=false from by simpa using e3,show(e==10)=false from by simpa using e10,show(e==13)=false from by simpa using e13,show(e==23)=false from by simpa using e23]at he
end
structure EA (PL:Program) (KS:List Int) (Stop:Goroutine->World->Prop) (args:Array Value) (wE:World) (c:Frame) (cs:List Frame) (s:cq) (ex:List Value) (ga:Addr) (glen gcap:Nat) (dig:Nat->Int) (bL:Nat) (w2:World):Prop where
 a0:args[0]?=some (.agg (s.cells++ex.toArray))
 a1:args[1]?=some (.slice (some ga) glen gcap)
 pos:1<=s.count
 small:s.count<=65536
 glen:s.count<=glen
 links:s.count*32<=s.links.size
 fine:∀i,i<s.count->zg s i (dig i) (s.links.extract (i*32) ((i+1)*32))
 digs:∀i,i<s.count->∃wc,Below wE.heap.size wE wc/\(Instr.loadAt 3 (.pointer (some (ga.add i)))).run PL wc= .ok (.int .i64 (dig i)) wc
 keep:Below wE.heap.size wE w2
 low:wE.heap.size<=bL
 list:w2.heap[bL]?=some (.cells (Array.ofFn λi:Fin s.count=>uf KS s dig i.val) 9)
 steps:StepsIn (λ_=>True) PL (solo (ba PL 68 args (c::cs)) wE) (solo (hU (c.finish (.slice (some ⟨bL,0,none⟩) s.count s.count)) cs) w2)
 tree:fc PL Stop (hU (c.finish (.slice (some ⟨bL,0,none⟩) s.count s.count)) cs) w2
theorem tj{args:Array Value}{i:Nat}{v:Value}{N:Nat}(hN:N<=args.size+(N- args.size))(hi:i<N)(h:(Act.mk (args++Array.replicate (N- args.size) undef) []).eval (.tmp i)=v)(hv:v≠undef):args[i]?=some v:=by
 refine CG (k:=N- args.size) ?_ hv
 have hsz:i<(args++Array.replicate (N- args.size) undef).size:=by simp;omega
 rw[Array.getElem?_eq_getElem hsz]
 have e:(args++Array.replicate (N- args.size) undef).getD i undef=v:=h
 rw[Array.getD_eq_getD_getElem?,Array.getElem?_eq_getElem hsz]at e
 exact congrArg some e
theorem Ji{Stop:Goroutine->World->Prop}(hstop:∀g w,Stop g w->∀τ d,∃o w1 es,stepG (ac true Tryd.prog) true g (jJ w τ d)= .ended o w1 es)(hS:∀g w,Stop g w->g.frame.mode= .returning/\g.callers=[]){args:Array Value}{wE:World}{c:Frame}{cs:List Frame}
 (hq:∀g2 w2,StepsIn (λ_=>True) (ac true Tryd.prog) (solo (ba (ac true Tryd.prog) 68 args (c::cs)) wE) (solo g2 w2)->ax w2) {KS:List Int} (hKl:KS.length=64) (hK:wE.rangeAt 0 0 (aj KS)) (h0:0<wE.heap.size)
 (ht:fc (ac true Tryd.prog) Stop (ba (ac true Tryd.prog) 68 args (c::cs)) wE):∃s ex ga glen gcap dig bL w2,EA (ac true Tryd.prog) KS Stop args wE c cs s ex ga glen gcap dig bL w2:=by
 have hent:ba (ac true Tryd.prog) 68 args (c::cs)=hU ((base 68).atR ⟨args++Array.replicate (36- args.size) undef,[]⟩ [.code ll]) (c::cs):=by
  unfold ba
  rw[enter_at args py rfl]
  rfl
 suffices h:Tk (ac true Tryd.prog) Stop (∃s ex ga glen gcap dig bL w2,EA (ac true Tryd.prog) KS Stop args wE c cs s ex ga glen gcap dig bL w2) (ba (ac true Tryd.prog) 68 args (c::cs)) wE ((base 68).atR ⟨args++Array.replicate (36- args.size) undef,[]⟩ [.code ll]) (c::cs) wE by
  refine h ?_ ?_
  ·rw[←hent];exact ht
  ·rw[←hent];exact .refl _
 have hF:aM [(0,(Act.mk (args++Array.replicate (36- args.size) undef) []).eval (.tmp 0)),(1,(Act.mk (args++Array.replicate (36- args.size) undef) []).eval (.tmp 1))] 36 [] ⟨args++Array.replicate (36- args.size) undef,[]⟩:=by
  have hsz:36<=(args++Array.replicate (36- args.size) undef).size:=by simp;omega
  refine⟨rfl,hsz,λd v hd=> ?_⟩
  have key:∀d,d<36->(args++Array.replicate (36- args.size) undef)[d]?=some ((args++Array.replicate (36- args.size) undef).getD d undef):=λd hd=>by
   rw[Array.getD_eq_getD_getElem?,Array.getElem?_eq_getElem (by omega)]
   rfl
  by_cases e0:d=0
  ·subst e0
   have:some _=some v:=hd
   rw[←this]
   exact key 0 (by omega)
  by_cases e1:d=1
  ·subst e1
   have:some _=some v:=hd
   rw[←this]
   exact key 1 (by omega)
  simp[List.lookup,show(d==0)=false from by simpa using e0,show(d==1)=false from by simpa using e1]at hd
 refine Kw hS hF λs ex a e0 hn1 hn2 hwd hqq hid hF=> ?_
 have ha0:args[0]?=some (.agg (s.cells++ex.toArray)):=tj (by omega) (by omega) e0 (by simp[undef])
 refine Tk.plain hS rfl (Tk.region hS (L:=[0,1,2,3]) rfl ?_)
 refine Tk.op hS hF 21 (.binOp .mul 3 (.tmp 10) (.const (.int .i64 32)) 3) (by decide) rfl (by simp) (λo ho=>(dA ho (hF.get (d:=10) rfl) rfl (by omega)).1) λa hF=> ?_
 have g21:a.eval (.tmp 21)= .int .i64 ((s.count*32:Nat):Int):=(hF.get (d:=21) rfl).trans (by rw[Int.natCast_mul];rfl)
 refine(Du (w:=wE.alloc (.cells (s.cells++ex.toArray) 82)) (ev:=a.eval) (o:=dU (some 22) (.slice 9 (.tmp 13) none (some (.tmp 21)) none)) (x:= .tmp 13) (y:= .tmp 21) rfl (hF.get (d:=13) rfl) g21).elim (λ⟨hlk,hr⟩=> ?_) λ⟨x,w',hr,hx⟩=>Tk.stuck hS (o:=dU (some 22) (.slice 9 (.tmp 13) none (some (.tmp 21)) none)) rfl rfl (by simp[dU]) hr hx
 refine Tk.ran hS (o:=dU (some 22) (.slice 9 (.tmp 13) none (some (.tmp 21)) none)) rfl rfl (by simp[dU]) hr ?_
 have hF:=hF.put (d:=22) (by decide) (.string (s.links.extract 0 (s.count*32)))
 refine Tk.op hS hF 23 (.makeSlice 70 (.tmp 10) (.tmp 10)) (by decide) rfl (by simp) (λo ho=>zy (by omega) (by omega) ho (hF.get (d:=10) rfl) (hF.get (d:=10) rfl)) λa hF=> ?_
 refine Tk.op hS hF 24 (.move (.const (.int .i64 0))) (by decide) rfl (by simp) (λo ho=>(bz (ac true Tryd.prog) (.inl ho)).1) λa hF=> ?_
 refine Tk.plain hS rfl (Tk.plain hS rfl (Tk.plain hS rfl (Tk.plain hS rfl ?_)))
 have hsz:=ak wE (.cells (s.cells++ex.toArray) 82)
 have hb1:=an wE (.cells (s.cells++ex.toArray) 82)
 have hb2:=an (wE.alloc (.cells (s.cells++ex.toArray) 82)) (.cells (Array.replicate s.count (.string ⟨#[]⟩)) 9)
 have hl2:=aC (wE.alloc (.cells (s.cells++ex.toArray) 82)) (.cells (Array.replicate s.count (.string ⟨#[]⟩)) 9)
 refine F9 hstop hS hq hKl hK h0 rfl hn1 hn2 hwd hqq hid hlk (bL:=(wE.alloc (.cells (s.cells++ex.toArray) 82)).heap.size) (by rw[hsz];omega) (n:=s.count) (v1:=(Act.mk (args++Array.replicate (36- args.size) undef) []).eval (.tmp 1)) ?_ s.count 0 (λ_=>0) a _ rfl (Nat.zero_le _) (λc hc=>absurd hc (Nat.not_lt_zero c)) (ah hb1 hb1.size hb2) (by rw[wW];exact hl2) (hF.sub λe v he=> ?_)
 ·intro dig a w hdug hbel hlist hF
  refine Tk.plain hS rfl (Tk.region hS (L:=[0]) rfl ?_)
  have hmv:=λ(o:Oper) (ho:o.op= .move (.tmp 23))=>(bz (w:=w) (ev:=a.eval) (ac true Tryd.prog) (.inl ho)).1
  rw[hF.get (d:=23) rfl]at hmv
  refine Tk.op hS hF 4 (.move (.tmp 23)) (by decide) rfl (by simp) hmv λa hF=> ?_
  have hr:=nB (P:=ac true Tryd.prog) (fn:=qC) (t:=4) rfl (hF.slot 4 _ rfl) w
  refine Tk.plain hS rfl (Tk.ends hS rfl (.inr ⟨_,rfl⟩) (Tk.leave hS (.slice (some ⟨(wE.alloc (.cells (s.cells++ex.toArray) 82)).heap.size,0,none⟩) s.count s.count) rfl hF.defers py hr.1 hr.2 ?_))
  intro htr hst
  obtain⟨ga,glen,gcap,hv1,hlen,_⟩:=hdug (s.count- 1) (by omega)
  refine⟨s,ex,ga,glen,gcap,dig,_,w,⟨ha0,tj (by omega) (by omega) hv1 (by simp[undef]),hn1,by omega,by omega,hlk,λi hi=> ?_,λi hi=> ?_,hbel,by rw[hsz];omega, ?_,hst,htr⟩⟩
  ·obtain⟨_,_,_,_,_,hd,_⟩:=hdug i hi
   exact⟨hwd,hqq,hid,by omega,hd,by rw[ByteArray.size_extract];omega⟩
  ·obtain⟨ga',glen',gcap',hv1',_,_,wc,q1,q2⟩:=hdug i hi
   have e:=hv1.symm.trans hv1'
   cases e
   exact⟨wc,q1,q2⟩
  ·rw[←wY]
   exact hlist
 ·by_cases e24:e=24
  ·subst e24;exact he
  by_cases e1:e=1
  ·subst e1;exact he
  by_cases e3:e=3
  ·subst e3;exact he
  by_cases e10:e=10
  ·subst e10;exact he
  by_cases e13:e=13
  ·subst e13;exact he
  by_cases e23:e=23
  ·subst e23;exact he
  simp[List.lookup,show(e==24)=false from by simpa using e24,show(e==1)=false from by simpa using e1,show(e==3)=false from by simpa using e3,show(e==10)=false from by simpa using e10,show(e==13)=false from by simpa using e13,show(e==23)=false from by simpa using e23]at he
end Go.Proofs.YtkmoglhgkcnalaaDoor.L1
