/- A part of what the last text of the claim imports: texts laid together, and made small, by a program. -/
import Derived.Deep.RegionHeld3
import Derived.Test.YtkmoglhgkcnalaaGreatDoorRows
import Derived.Great.BuildSlice
import Derived.Test.YtkmoglhgkcnalaaGreatDoorProg
import Derived.Conc.WalkWords
import Derived.KernelRfl
import Derived.Laws.Slices
import Derived.Conc.EventLaws2
import Derived.RowKit
import Derived.Test.YtkmoglhgkcnalaaGreatDoorOwn7
set_option maxHeartbeats 16000000
set_option maxRecDepth 100000
namespace Go.Proofs.YtkmoglhgkcnalaaGreatDoor
open Go
variable{n b i N l m k j:Nat}{w w':World}{fr:Frame}{v:Value}{cs:List Frame}{args cv:Array Value}{V RO D:Nat->Prop}{q main listen:Bool}{g:Goroutine}{a:Act}{K:List Item}{P:Program}{x:Operand}{ops:Array Oper}{KS:List Int}{t u:TypeId}{o:Oper}{f:FuncId}{es:Array Event}{Goal:Goroutine->World->Prop}{fn:Func}{rest:List Nat}{ds:List Deferred}{F:List (Nat×Value)}{e:Event}{listed:Array Bool}{c:Int}{s msg key sig:ByteArray}
namespace L1
open Go.Proofs.YtkmoglhgkcnalaaGreatDoor
section
variable{ql:Bool}
open Go.RowKit
theorem yv(b k:Nat)(i:k<16)(W:World):(Instr.sliceAt 164 (.pointer (some ⟨b,0,none⟩)) (some (.i (4*(k:Int)))) (some (.i (4*(k:Int)+4))) none).run (jx ql Tryz.prog) W=
 .ok (.slice (some ⟨b,4*k,none⟩) 4 (64- 4*k)) W:=by
 have c:(jx ql Tryz.prog).underlying 164=some (.array ((jx ql Tryz.prog).arrayLen 164) ((jx ql Tryz.prog).elem 164)):=by kernel_rfl
 have a:(jx ql Tryz.prog).arrayLen 164=64:=by kernel_rfl
 have e:(jx ql Tryz.prog).elem 164=5:=by kernel_rfl
 have d:(sizeOf 5).run (jx ql Tryz.prog) W= .ok 1 W:=by kernel_rfl
 rw[run_sliceAt_array_lh W 164 _ c _ _ _ _ (by omega) (by omega) (by rw[a];omega),a,e,d];have h:(4*(k:Int)).toNat=4*k:=by omega
 have g:(4*(k:Int)+4).toNat=4*k+4:=by omega
 have f:4*k+4- 4*k=4:=by omega
 simp only[Result.andThen_ok,slicedAt];rw[h,g,f,if_neg (by omega),Addr.add_mid,Nat.mul_one,Nat.zero_add]
theorem Cu(B:List UInt8)(h:B.length=64)(b k c:Nat)(g:k<16)(W:World)(e:W.rangeAt b 0 (aA B)):
 (convert 83 9 (.slice (some ⟨b,4*k,none⟩) 4 c)).run (jx ql Tryz.prog) W= .ok (.string ⟨((B.drop (4*k)).take 4).toArray⟩) W:=by
 have d:((B.drop (4*k)).take 4).length=4:=by simp;omega
 have a:=run_convert_bytes_back (P:=(jx ql Tryz.prog)) W 83 9 5 ⟨b,4*k,none⟩ c ((B.drop (4*k)).take 4) Lf.underlying83 Lf.underlying5 Lf.underlying9
  (λj f=>by
    rw[d]at f;rw[Addr.add_mid];have:=e (4*k+j) (.int .u8 ((B[4*k+j]'(by omega)).toNat:Int)) (by simp[aA];exact⟨_,List.getElem?_eq_getElem (by omega),rfl⟩);rw[Nat.zero_add]at this;rw[this];simp)
 rwa [d]at a
theorem Bu(B:List UInt8)(hB:B.length=64)(w:World):
 Calls (jx ql Tryz.prog) 162 #[.agg (aA B).toArray] w λe w'=>e= .returned (.agg (tL (aW B 64)).toArray)/\Below w.heap.size w w':=by
 go_enter Lf.func162,Tryz.ntmps162
 go_wp2
 go_loopw [4,6] (λ_ i E=>∃(k:Nat) (f:World),k<=16/\i= .i k/\f.heap.size=w.heap.size+1+1/\f.rangeAt w.heap.size 0 (aA B)/\f.there (w.heap.size+1) 0 64/\Below w.heap.size w f/\
  E=f.alloc (.cells (tL (bW B k)).toArray 214)) (λ_ i _=>16-(intOf i).toNat)
 case atStart=>
  have D:=EH w B (List.replicate 64 (.int .u32 0)).toArray (by simp);exact⟨0,_,by omega,rfl,D.1,D.2.1,D.2.2.1,D.2.2.2,by rw[wm];rfl⟩
 case round=>
  obtain⟨k,f,Q,rfl,a,q,o,r,rfl⟩:=hrel;by_cases d:k<16
  ·have a4:=yv (ql:=ql) w.heap.size k d
   have a6:=λc=>Cu (ql:=ql) B hB w.heap.size k c d (f.alloc (.cells (tL (bW B k)).toArray 214)) (World.rangeAt_alloc q _)
   have hg:=pz B k (by omega)
   have O:=sO B k (by omega)
   have a5:(tL (bW B k)).length=64:=by rw[aH,O]
   have h8:(ByteArray.mk ((B.drop (4*k)).take 4).toArray).size<=8:=by show((B.drop (4*k)).take 4).toArray.size<=8;simp;omega
   go_wp2_with (go_at_call 88;refine(kN _ _ h8).mono ?_;rintro e w' ⟨rfl,rfl⟩)
   go_roundw
   case rel=>exact⟨k+1,f,by omega,by go_num,a,q,o,r,by rw[ri B k (by omega) _ (by rw[if_pos d,pm,IntKind.wrap_u32])]⟩
   case measure=>simp[intOf];omega
  ·have g:k=16:=(by omega);subst g;clear d Q
   go_wp2
   go_loopw [5] (λi E=>∃(k n:Nat),16<=k/\k<=64/\i= .i k/\
    E=(f.alloc (.cells (tL (bW B k)).toArray 214)).drewN n) (λi _=>64-(intOf i).toNat)
   case atStart=>exact⟨16,0,by omega,by omega,rfl,rfl⟩
   case round=>
    obtain⟨k,n,g,Q,rfl,rfl⟩:=hrel;by_cases d:k<64
    ·obtain⟨m,rfl⟩:∃m,k=m+16:=⟨k- 16,by omega⟩;rw[show((m+16:Nat):Int)=(m:Int)+16 from by omega]
     go_wp2_with fail
     obtain⟨M,b⟩:∃M,M=(f.alloc (.cells (tL (bW B (m+16))).toArray 214)).drewN n:=⟨_,rfl⟩;have X:=pf b a (kB B (m+16) m (by omega));have W:=pf b a (kB B (m+16) (m+1) (by omega));have U:=pf b a (kB B (m+16) (m+9) (by omega));have s:=pf b a (kB B (m+16) (m+14) (by omega));have V:=pf b a (pz B (m+16) (by omega));have T:=EK b a (m+16);generalize y:(aW B (m+16)).getD m 0=x0 at X;have X0:Hid ((aW B (m+16)).getD m 0=x0):=y;clear y;generalize x:(aW B (m+16)).getD (m+1) 0=x1 at W;have X1:Hid ((aW B (m+16)).getD (m+1) 0=x1):=x;clear x;generalize u:(aW B (m+16)).getD (m+9) 0=x9 at U;have X9:Hid ((aW B (m+16)).getD (m+9) 0=x9):=u;clear u;generalize h:(aW B (m+16)).getD (m+14) 0=t at s;have Z:Hid ((aW B (m+16)).getD (m+14) 0=t):=h;clear h;rw[←b];have HM:Hid (M=(f.alloc (.cells (tL (bW B (m+16))).toArray 214)).drewN n):=b;clear b;have b0:(m:Int)<64:=(by omega);have b1:(m:Int)+1<64:=(by omega);have b9:(m:Int)+9<64:=(by omega);have Y:(m:Int)+14<64:=(by omega);have a7:(m:Int)+16<64:=(by omega);have z0:0<=(m:Int):=(by omega);have v0:IntKind.i64.wrap (m:Int)=m:=(by rw[IntKind.wrap_i64];omega);have v1:IntKind.i64.wrap ((m:Int)+16- 15)=m+1:=(by rw[IntKind.wrap_i64];omega);have v9:IntKind.i64.wrap ((m:Int)+16- 7)=m+9:=(by rw[IntKind.wrap_i64];omega);have F:IntKind.i64.wrap ((m:Int)+16- 2)=m+14:=(by rw[IntKind.wrap_i64];omega);have p1:0<=(m:Int)+1:=(by omega);have p9:0<=(m:Int)+9:=(by omega);have J:0<=(m:Int)+14:=(by omega);have I:0<=(m:Int)+16:=(by omega);have t1:((m:Int)+1).toNat=m+1:=(by omega);have t9:((m:Int)+9).toNat=m+9:=(by omega);have H:((m:Int)+14).toNat=m+14:=(by omega);have G:((m:Int)+16).toNat=m+16:=by omega
     go_region_held3 (λw'=>w'.cell? ⟨w.heap.size+1+1,m,none⟩=some (.int .u32 x0)/\w'.cell? ⟨w.heap.size+1+1,m+1,none⟩=some (.int .u32 x1)/\w'.cell? ⟨w.heap.size+1+1,m+9,none⟩=some (.int .u32 x9)/\w'.cell? ⟨w.heap.size+1+1,m+14,none⟩=some (.int .u32 t)) (first|go_keep|(refine⟨?_, ?_, ?_, ?_⟩<;>(rw[World.cell?_setCell_other _ _ _ _ (by simp)];simp only[World.cell?_drewN,X,W,U,s])))
      (first|(go_at_call 183;refine(vW _ _ _ _ _ (by omega) (by omega) (by omega) (by omega) (by omega) (by omega)).mono ?_;rintro e w' ⟨rfl,nq,rfl⟩))
     all_goals
      clear X W U s V T b0 b1 b9 Y v0 v1 v9 F p1 p9 J I t1 t9 H G
      go_wp2
      go_roundw
      case rel=>((repeat apply Exists.intro);exact⟨⟨m+17,_,by omega,by omega,by go_num,(Kk HM.out a _ _ _).trans (by rw[ri B (m+16) (by omega) _ (by rw[if_neg (by omega),wY,X0.out,X1.out,X9.out,Z.out,IntKind.wrap_u32,IntKind.wrap_u32,IntKind.wrap_u32])])⟩,rfl⟩)
      case measure=>simp[intOf];omega
    ·have A:k=64:=(by omega);subst A;clear d Q g;obtain⟨M,b⟩:∃M,M=(f.alloc (.cells (tL (bW B 64)).toArray 214)).drewN n:=⟨_,rfl⟩;have N:M.rangeAt (w.heap.size+1+1) 0 (tL (bW B 64)):=λj v hv=>by rw[Nat.zero_add];exact pf b a hv
     have K:M.there (w.heap.size+1) 0 64:=(by rw[b];exact World.there_alloc o _);have hb:Below w.heap.size w M:=(by rw[b];exact below_drewN (r.alloc (by omega) _) n);rw[←b];rw[pA]at N;clear b a q o r;have P:(tL (aW B 64)).length=64:=(by rw[aH,g3]);generalize S:tL (aW B 64)=L at*;have HL:Hid (tL (aW B 64)=L):=S;have l:∀v∈L,v.oneCell'=true:=(by rw[←S];exact gt _);clear S;have R:((jx ql Tryz.prog).info? 214).map (·.size)=some L.length:=(by rw[P];kernel_rfl);have a3:Hid (M.rangeAt (w.heap.size+1+1) 0 L):=N;have z:L.toArray.size=64:=(by simp[P]);have a2:Hid (M.there (w.heap.size+1) 0 L.toArray.size):=(by rw[z];exact K);have C:Hid (M.there (w.heap.size+1) 0 L.length):=(by rw[P];exact K);clear z;have a1:Hid (((jx ql Tryz.prog).info? 214).map (·.size)=some L.toArray.size):=(by rw[List.size_toArray];exact R);have a0:Hid (L.toArray.all (·.oneCell')=true):=all_oneCell_toArray l;clear N K l
     go_wp2_with (first
      |refine wpList_load_mid rfl 214 (.tmp 3) rfl (w.heap.size+1+1) 0 rfl L _ a3.out Lf.underlying214 rfl R ?_
      |refine wpList_store_mid rfl 214 (.tmp 2) (.tmp 48) rfl (w.heap.size+1) 0 L.toArray rfl rfl a2.out a1.out a0.out ?_)
     exact bodyPost_ret (v:= .agg L.toArray) (dz (p:=2) (ty:=214) (by kernel_rfl) _ _ (w.heap.size+1) 0 L _ rfl (World.rangeAt_setCells_same _ _ _ _ C.out) Lf.underlying214 rfl R) rfl ⟨FJ HL.out.symm,cx (by omega) _ _ _ _ hb⟩
end
section
variable{ql:Bool}
open Go.RowKit
theorem C1(G:List Int)(c:G.length=8)(k:Nat)(b:k<8)(W:World):(Instr.index 163 (.agg (tL G).toArray) (.i (k:Int))).run (jx ql Tryz.prog) W= .ok (.int .u32 (G.getD k 0)) W:=by
 have a:(sizeOf 162).run (jx ql Tryz.prog) W= .ok 1 W:=by kernel_rfl
 simp[Instr.index,asIntOf,run_underlying Lf.underlying163,part,a,b,tL,c]
theorem CV(x:Int)(w:World):Calls (jx ql Tryz.prog) 163 #[.int .u32 x, .i 6, .i 11, .i 25] w λe w'=>e= .returned (.int .u32 (cS x 6 11 25))/\w'=w:=
 qO x 6 11 25 w (by omega) (by omega) (by omega) (by omega) (by omega) (by omega)
theorem CW(x:Int)(w:World):Calls (jx ql Tryz.prog) 163 #[.int .u32 x, .i 2, .i 13, .i 22] w λe w'=>e= .returned (.int .u32 (cS x 2 13 22))/\w'=w:=
 qO x 2 13 22 w (by omega) (by omega) (by omega) (by omega) (by omega) (by omega)
theorem BM(H KS:List Int)(B:List UInt8)(hH:H.length=8)(hB:B.length=64)(w:World)(hK:w.rangeAt 0 0 (tL KS))(hKl:KS.length=64)(h0:0<w.heap.size):
 Calls (jx ql Tryz.prog) 131 #[.agg (tL H).toArray, .agg (aA B).toArray] w λe w'=>e= .returned (.agg (tL (kP KS H B)).toArray)/\Below w.heap.size w w':=by
 have hi54:((jx ql Tryz.prog).info? 164).map (·.size)=some (aA B).length:=by rw[fb,hB];kernel_rfl
 have HK:Hid (w.rangeAt 0 0 (tL KS)):=hK;have HKl:Hid (KS.length=64):=hKl;clear hK hKl
 go_enter Lf.func131,Tryz.ntmps131
 go_wp2_with (first
  |refine wpList_load_mid rfl 164 (.tmp 3) rfl (w.heap.size+1) 0 rfl (aA B) _ (by exact World.rangeAt_alloc (eb _ _ _ _ (by simp)) _) Lf.underlying164 rfl hi54 ?_
  |fail)
 refine(Bu B hB _).mono ?_;rintro e w1 ⟨rfl,hb1⟩;have hSl:(aW B 64).length=64:=g3 B 64;generalize hS:aW B 64=S at*;have HS:Hid (aW B 64=S):=hS;have hi85:((jx ql Tryz.prog).info? 214).map (·.size)=some (tL S).toArray.size:=by rw[show(tL S).toArray.size=64 from by simp[aH,hSl]];kernel_rfl
 have hth:(w1.alloc (.cells (List.replicate 64 (.int .u32 0)).toArray 214)).there w1.heap.size 0 (tL S).toArray.size:=by rw[show(tL S).toArray.size=64 from by simp[aH,hSl]];exact cI _ _ _ _ _ rfl (by simp)
 have Hth:Hid ((w1.alloc (.cells (List.replicate 64 (.int .u32 0)).toArray 214)).there w1.heap.size 0 (tL S).toArray.size):=hth;have Hb1:Hid (Below _ _ _):=hb1;clear hS hth hb1 hi54
 go_wp2_with (first
  |refine wpList_store_mid rfl 214 (.tmp 5) (.tmp 20) rfl w1.heap.size 0 (tL S).toArray rfl rfl Hth.out hi85 (all_oneCell_toArray (gt S)) ?_)
 refine yl (λM=>Jb w M H KS S w1.heap.size) (BN w w1 H KS S B 163 164 214 _ _ rfl rfl hSl hH HK.out h0 Hb1.out) ?_;intro M hMM;have HHm:Hid (Jb w M H KS S w1.heap.size):=hMM;clear hMM hi85 Hth Hb1;generalize w1.heap.size=c at HHm⊢;clear w1;simp only[Act.put];obtain⟨s0,hs0⟩:∃s,s=St.of H:=⟨_,rfl⟩;have x0:M.cell? ⟨w.heap.size,0,none⟩=some (.int .u32 s0.a):=by rw[hs0];exact fK HHm.out.hrow 0 (by omega)
 have x1:M.cell? ⟨w.heap.size,1,none⟩=some (.int .u32 s0.b):=by rw[hs0];exact fK HHm.out.hrow 1 (by omega)
 have x2:M.cell? ⟨w.heap.size,2,none⟩=some (.int .u32 s0.c):=by rw[hs0];exact fK HHm.out.hrow 2 (by omega)
 have x3:M.cell? ⟨w.heap.size,3,none⟩=some (.int .u32 s0.d):=by rw[hs0];exact fK HHm.out.hrow 3 (by omega)
 have x4:M.cell? ⟨w.heap.size,4,none⟩=some (.int .u32 s0.e):=by rw[hs0];exact fK HHm.out.hrow 4 (by omega)
 have x5:M.cell? ⟨w.heap.size,5,none⟩=some (.int .u32 s0.f):=by rw[hs0];exact fK HHm.out.hrow 5 (by omega)
 have x6:M.cell? ⟨w.heap.size,6,none⟩=some (.int .u32 s0.g):=by rw[hs0];exact fK HHm.out.hrow 6 (by omega)
 have x7:M.cell? ⟨w.heap.size,7,none⟩=some (.int .u32 s0.h):=by rw[hs0];exact fK HHm.out.hrow 7 (by omega)
 have HH:Hid (s0=St.of H):=hs0;have HhH:Hid (H.length=8):=hH;have HhS:Hid (S.length=64):=hSl;clear hs0 hH hSl hB
 go_quiet (fail)
 clear x0 x1 x2 x3 x4 x5 x6 x7
 go_wp2
 go_loopw [6,7,8,9,10,11,12,13,37] (λa b c d e f g h i wr=>∃(k n:Nat),k<=64/\i= .int .i64 k/\a= .int .u32 (bI KS S H k).a/\b= .int .u32 (bI KS S H k).b/\c= .int .u32 (bI KS S H k).c/\d= .int .u32 (bI KS S H k).d/\
  e= .int .u32 (bI KS S H k).e/\f= .int .u32 (bI KS S H k).f/\g= .int .u32 (bI KS S H k).g/\h= .int .u32 (bI KS S H k).h/\wr=M.drewN n) (λ_ _ _ _ _ _ _ _ i _=>64-(intOf i).toNat)
 case atStart=>exact⟨0,_,by omega,rfl,by rw[HH.out];rfl,by rw[HH.out];rfl,by rw[HH.out];rfl,by rw[HH.out];rfl,by rw[HH.out];rfl,by rw[HH.out];rfl,by rw[HH.out];rfl,by rw[HH.out];rfl,rfl⟩
 case round=>
  obtain⟨k,n,hk,rfl,rfl,rfl,rfl,rfl,rfl,rfl,rfl,rfl,rfl⟩:=hrel;by_cases hlt:k<64
  ·generalize hs:bI KS S H k=s;have HR:Hid (bI KS S H k=s):=hs;clear hs;have hlt':(k:Int)<64:=(by omega);have hk0:(0:Int)<=(k:Int):=(by omega);have y1:M.cell? ⟨0,k,none⟩=some (.int .u32 (KS.getD k 0)):=fK HHm.out.krow k (by rw[HKl.out];omega);have y2:M.cell? ⟨c,k,none⟩=some (.int .u32 (S.getD k 0)):=fK HHm.out.srow k (by rw[HhS.out];omega);generalize hkk:KS.getD k 0=kk at y1;generalize hww:S.getD k 0=ww at y2;have HKK:Hid (KS.getD k 0=kk):=hkk;have HWW:Hid (S.getD k 0=ww):=hww;clear hkk hww
   go_wp2_with fail
   go_quiet ((go_at_call 163;exact(CV _ _).mono (λ_ _ h=>⟨h.1,_,h.2⟩)))
   clear y1 y2
   go_wp2_with (go_at_call 163;refine(CW _ _).mono ?_;rintro e w' ⟨rfl,rfl⟩)
   go_roundw
   case rel=>exact⟨k+1,_,by omega,by go_num,by rw[bI,HR.out,HKK.out,HWW.out];exact congrArg (Value.int .u32) (I1 s kk ww),by rw[bI,HR.out,HKK.out,HWW.out];rfl,by rw[bI,HR.out,HKK.out,HWW.out];rfl,by rw[bI,HR.out,HKK.out,HWW.out];rfl,by rw[bI,HR.out,HKK.out,HWW.out];exact congrArg (Value.int .u32) (I0 s kk ww),by rw[bI,HR.out,HKK.out,HWW.out];rfl,by rw[bI,HR.out,HKK.out,HWW.out];rfl,by rw[bI,HR.out,HKK.out,HWW.out];rfl,rfl⟩
   case measure=>simp[intOf];omega
  ·have hk64:k=64:=(by omega);subst hk64;clear hlt hk
   go_wp2
   generalize hG:bI KS S H 64=G;have HG:Hid (bI KS S H 64=G):=hG;clear hG;have hgl:Value.agg #[Value.int .u32 G.a,Value.int .u32 G.b,Value.int .u32 G.c,Value.int .u32 G.d,Value.int .u32 G.e,Value.int .u32 G.f,Value.int .u32 G.g,Value.int .u32 G.h]=Value.agg (tL G.list).toArray:=rfl
   go_loopw [97] (λi wr=>∃(k:Nat),k<=8/\i= .int .i64 k/\Below w.heap.size w wr/\wr.rangeAt w.heap.size 0 (tL (dB H G.list k))/\wr.there w.heap.size 0 8/\wr.there (w.heap.size+1+1) 0 8) (λi _=>8-(intOf i).toNat)
   case atStart=>exact⟨0,by omega,rfl,below_drewN HHm.out.below _,by rw[wZ H _ HhH.out];exact HHm.out.hrow,HHm.out.hthere,HHm.out.res⟩
   case round=>
    obtain⟨k,hk,rfl,hb,hr,ht,hres⟩:=hrel;by_cases hlt:k<8
    ·have hix:=λW=>C1 (ql:=ql) G.list rfl k hlt W;rw[←hgl]at hix;have hlt':(k:Int)<8:=(by omega);have hk0:(0:Int)<=(k:Int):=(by omega);have y0:wr.cell? ⟨w.heap.size,k,none⟩=some (.int .u32 (H.getD k 0)):=(by have:=hr k _ (BP H G.list k hlt);rwa [Nat.zero_add]at this);have yf:wr.frozen? ⟨w.heap.size,k,none⟩=false:=(by have:=(ht k hlt).2;rwa [Nat.zero_add]at this);clear hgl;have Hr:Hid (wr.rangeAt w.heap.size 0 (tL (dB H G.list k))):=hr;have Ht:Hid (wr.there w.heap.size 0 8):=ht;have Hres:Hid (wr.there (w.heap.size+1+1) 0 8):=hres;clear hr ht hres
     go_wp2
     go_roundw
     case rel=>exact⟨k+1,by omega,by go_num,hb.setCell (Nat.le_refl _) _,by rw[←BO H G.list k _ (by rw[IntKind.wrap_u32,List.getD_eq_getElem?_getD,List.getD_eq_getElem?_getD])];exact iu Hr.out _,eL Ht.out _ _ _,eL Hres.out _ _ _⟩
     case measure=>simp[intOf];omega
    ·have hk8:k=8:=(by omega);subst hk8;clear hlt hk hgl;have hml:(dB H G.list 8).length=8:=kO _ _ _;have HL:Hid (kP KS H B=dB H G.list 8):=(by show kP KS H B=_;rw[kP,zm,HS.out,HG.out]);generalize dB H G.list 8=L at*;have hi53:((jx ql Tryz.prog).info? 163).map (·.size)=some (tL L).length:=(by rw[aH,hml];kernel_rfl);have Hi53:Hid (((jx ql Tryz.prog).info? 163).map (·.size)=some (tL L).toArray.size):=(by show _=some (tL L).toArray.size;rw[List.size_toArray];exact hi53);have Hr:Hid (wr.rangeAt w.heap.size 0 (tL L)):=hr;have Hres':Hid (wr.there (w.heap.size+1+1) 0 (tL L).length):=(by show wr.there _ _ _;rw[aH,hml];exact hres);have Hres:Hid (wr.there (w.heap.size+1+1) 0 (tL L).toArray.size):=(by show wr.there _ _ (tL L).toArray.size;rw[List.size_toArray];exact Hres'.out);clear hr ht hres
     go_wp2_with (first
           |refine wpList_load_mid rfl 163 (.tmp 2) rfl w.heap.size 0 rfl (tL L) _ Hr.out Lf.underlying163 rfl hi53 ?_
           |refine wpList_store_mid rfl 163 (.tmp 4) (.tmp 108) rfl (w.heap.size+1+1) 0 (tL L).toArray rfl rfl Hres.out Hi53.out (all_oneCell_toArray (gt L)) ?_)
     exact bodyPost_ret (v:= .agg (tL L).toArray) (dz (p:=4) (ty:=163) (by kernel_rfl) _ _ (w.heap.size+1+1) 0 (tL L) _ rfl (World.rangeAt_setCells_same _ _ _ _ Hres'.out) Lf.underlying163 rfl hi53) rfl ⟨by rw[HL.out],cx (by omega) _ _ _ _ hb⟩
end
section
variable{ql:Bool}
open Go.RowKit
theorem yx(b h:Nat)(f:h<64)(W:World):(Instr.sliceAt 164 (.pointer (some ⟨b,8,none⟩)) (some (.i (h:Int))) none none).run (jx ql Tryz.prog) W= .ok (.slice (some ⟨b,8+h,none⟩) (64- h) (64- h)) W:=by
 have c:(jx ql Tryz.prog).underlying 164=some (.array ((jx ql Tryz.prog).arrayLen 164) ((jx ql Tryz.prog).elem 164)):=by kernel_rfl
 have a:(jx ql Tryz.prog).arrayLen 164=64:=by kernel_rfl
 have e:(jx ql Tryz.prog).elem 164=5:=by kernel_rfl
 have d:(sizeOf 5).run (jx ql Tryz.prog) W= .ok 1 W:=by kernel_rfl
 rw[run_sliceAt_array_l W 164 _ c _ _ (by omega) (by rw[a];omega),a,e,d];simp only[Result.andThen_ok,slicedAt];rw[Int.toNat_natCast,if_neg (by omega),Addr.add_mid,Nat.mul_one]
theorem te(KS:List Int)(L blk:List UInt8)(s:ByteArray)(w:World)(b:Nat)(hD:dS w b KS L blk L.length)(hK:w.rangeAt 0 0 (tL KS))(hKl:KS.length=64)(hb0:0<b)(hb:b<w.heap.size)
 (hlen:L.length+s.size<=4611686018427387904):
 Calls (jx ql Tryz.prog) 111 #[.pointer (some ⟨b,0,none⟩), .string s] w λe w'=>e= .returned (.tuple #[])/\w.grownBy w' (some b)/\∃blk',dS w' b KS (L++s.data.toList) blk' (L.length+s.size):=by
 have hc:=hD.length;have hf:w.frozen? ⟨b,72,none⟩=false:=by have:=(hD.there 72 (by omega)).2;rwa [Nat.zero_add]at this
 have HD:Hid (dS w b KS L blk L.length):=hD;have HK:Hid (w.rangeAt 0 0 (tL KS)):=hK;have Hl:Hid (L.length+s.size<=4611686018427387904):=hlen;have h1:(L.length:Int)<=4611686018427387904:=by omega
 have h2:(s.size:Int)<=4611686018427387904:=by omega
 clear hD hK hlen
 go_enter Lf.func111,Tryz.ntmps111
 go_wp2
 go_loopw [1,4] (λpc hd wr=>∃(q rest blk':List UInt8),s.data.toList=q++rest/\pc= .string ⟨rest.toArray⟩/\hd= .i (((L++q).length%64:Nat):Int)/\dS wr b KS (L++q) blk' (L.length+s.size)/\w.grownBy wr (some b)) (λpc _ _=>mY pc)
 case atStart=>exact⟨[],s.data.toList,blk,rfl,rfl,by simp,by rw[List.append_nil];have:=HD.out.setLen (L.length+s.size);simpa using this,mH _ _ _ _⟩
 case round=>
  clear hc hf;obtain⟨q,rest,blk',hq,rfl,rfl,hD,hG⟩:=hrel;have HQ:Hid (s.data.toList=q++rest):=hq;have HD':Hid (dS wr b KS (L++q) blk' (L.length+s.size)):=hD;have HG:Hid (w.grownBy wr (some b)):=hG;have hm:(L++q).length%64<64:=by omega
  generalize hh:(L++q).length%64=h at hm;have HH:Hid ((L++q).length%64=h):=hh;clear hq hD hG hh;by_cases hr:rest=[]
  ·subst hr
   go_wp2
   go_end0
   exact⟨rfl,HG.out,blk',by rw[HQ.out,List.append_nil];exact HD'.out⟩
  ·have hpos:0<rest.length:=List.length_pos_iff.2 hr;have hsz:(ByteArray.mk rest.toArray).size=rest.length:=(by show rest.toArray.size=_;simp);obtain⟨n,hn⟩:∃n,n=min rest.length (64- h):=⟨_,rfl⟩;have hcp:=nR (P:=(jx ql Tryz.prog)) wr 83 3 5 Lf.underlying83 (by kernel_rfl) 9 b (8+h) (64- h) (64- h) n ⟨rest.toArray⟩ (by rw[hsz];exact hn.symm) (gd HD'.out.there (by omega) (by omega));have hn1:n<=rest.length:=(by omega);have hn2:n<=64- h:=(by omega);have hn0:0<n:=(by omega);have Hn:Hid (n=min rest.length (64- h)):=hn;clear hn;have hsl:=λW=>yx (ql:=ql) b h hm W;by_cases hfull:h+n=64
   ·have hfb:(((h:Int)+(n:Int))==64)=true:=by rw[beq_iff_eq];omega
    go_wp2_with fail
    obtain⟨c1,c2,c3,c4⟩:=HD'.out.copied (rest.take n) (by rw[HH.out];simp;omega);rw[HH.out]at c1 c2 c3 c4;have hWs:(wr.setCells b (8+h) (aA (rest.take n))).heap.size=wr.heap.size:=eZ _ _ _ _;obtain⟨W1,hW1⟩:∃W1,W1=wr.setCells b (8+h) (aA (rest.take n)):=⟨_,rfl⟩;rw[←hW1]at c1 c2 c3 c4 hWs⊢;have HW1:Hid (W1=wr.setCells b (8+h) (aA (rest.take n))):=hW1;have hlt:(rest.take n).length=n:=(by simp;omega);have hB':(fY blk' (rest.take n) h).length=64:=fL _ _ _ HD'.out.len (by omega);have hH':(i8 KS (L++q) ((L++q).length/64)).length=8:=cm _ _ _;generalize hBB:fY blk' (rest.take n) h=BB at*;generalize hFF:i8 KS (L++q) ((L++q).length/64)=FF at*;have hi53:((jx ql Tryz.prog).info? 163).map (·.size)=some (tL FF).length:=(by rw[aH,hH'];kernel_rfl);have hi54:((jx ql Tryz.prog).info? 164).map (·.size)=some (aA BB).length:=(by rw[fb,hB'];kernel_rfl);clear hcp hsl hfb;have hKW:(World.drew W1).rangeAt 0 0 (tL KS):=by
     rw[World.rangeAt_drew,HW1.out];exact World.rangeAt_setCells_apart (wy HG.out HK.out (by simp;omega)) _ _ _ (Or.inl (by omega))
    have hgs:=HG.out.size;have hW0:0<(World.drew W1).heap.size:=(by show 0<W1.heap.size;omega);have hbW:b<W1.heap.size:=(by omega);have HKW:Hid ((World.drew W1).rangeAt 0 0 (tL KS)):=hKW;have HW0:Hid (0<(World.drew W1).heap.size):=hW0;have HWs:Hid (W1.heap.size=wr.heap.size):=hWs;have Hc4:Hid (W1.there b 0 73):=c4;have HBB:Hid (fY blk' (rest.take n) h=BB):=hBB;have HFF:Hid (i8 KS (L++q) ((L++q).length/64)=FF):=hFF;clear hKW hW0 hWs c3 c4 hBB hFF hW1 hgs;have hml:(kP KS FF BB).length=8:=lP _ _ _;have hmx:=BM (ql:=ql) FF KS BB hH' hB' (World.drew W1) HKW.out hKl HW0.out;generalize hMM:kP KS FF BB=MM at*;have HMM:Hid (kP KS FF BB=MM):=hMM;have Hmx:Hid (Calls _ _ _ _ _):=hmx;have hms:(tL MM).toArray.size=8:=(by simp[aH,hml]);have Ht53:Hid ((World.drew W1).there b 0 (tL MM).toArray.size):=(by show(World.drew W1).there b 0 _;rw[hms];exact(World.there_drew _ _ _ _).2 (gd Hc4.out (by omega) (by omega)));have Hi53:Hid (((jx ql Tryz.prog).info? 163).map (·.size)=some (tL MM).toArray.size):=(by show _=some (tL MM).toArray.size;rw[hms];kernel_rfl);clear hMM hmx hH' hB' hms;refine wp_region_any (by kernel_rfl) ?_
    change wpAny _ _ _ _ _ _ _ (World.drew W1)
    refine wT 0 (.pointer (some ⟨b,0,none⟩)) ?_;refine wT 1 (.pointer (some ⟨b,0,none⟩)) ?_;refine wT 2 (.pointer (some ⟨b,0,none⟩)) ?_;refine wT 3 (.pointer (some ⟨b,0,none⟩)) ?_;refine wT 5 (.pointer (some ⟨b,0,none⟩)) ?_;refine wT 6 (.pointer (some ⟨b,0,none⟩)) ?_;refine wT 7 (.pointer (some ⟨b,8,none⟩)) ?_;refine wpAny_all (rs:=[4,8]) (by kernel_rfl) (List.cons_ne_nil _ _) (AR (YieldsIf.wpOp (S:=λw'=>w'=World.drew W1) (v:= .agg (tL FF).toArray) rfl (yieldsIf_load_mid (by rfl) 163 (.tmp 43) rfl b 0 (by go_simp) (tL FF) _ (λw' hw'=>hw'▸eD c2) Lf.underlying163 rfl hi53) rfl ?_) (YieldsIf.wpOp (S:=λw'=>w'=World.drew W1) (v:= .agg (aA BB).toArray) rfl (yieldsIf_load_mid (by rfl) 164 (.tmp 47) rfl b 8 (by go_simp) (aA BB) _ (λw' hw'=>hw'▸eD c1) Lf.underlying164 rfl hi54) rfl ?_))
    ·refine wpAny_all (rs:=[8]) (by kernel_rfl) (List.cons_ne_nil _ _) (fR (YieldsIf.wpOp (S:=λw'=>w'=World.drew W1) (v:= .agg (aA BB).toArray) rfl (yieldsIf_load_mid (by rfl) 164 (.tmp 47) rfl b 8 (by go_simp) (aA BB) _ (λw' hw'=>hw'▸eD c1) Lf.underlying164 rfl hi54) rfl ?_));refine wpAny_all (rs:=[9]) (by kernel_rfl) (List.cons_ne_nil _ _) (fR (tf rfl rfl 131 #[.agg (tL FF).toArray, .agg (aA BB).toArray] (by go_simp) (.agg (tL MM).toArray) _ Hmx.out λw2 hb2=> ?_));refine wT 10 (.pointer (some ⟨b,0,none⟩)) ?_;refine wT 11 (.pointer (some ⟨b,0,none⟩)) ?_;have ht2:w2.there b 0 (tL MM).toArray.size:=eu hb2 (show b<(World.drew W1).heap.size from hbW) Ht53.out;refine wpAny_all (rs:=[12]) (by kernel_rfl) (List.cons_ne_nil _ _) (fR (lw (by rfl) (by rfl) 163 (.tmp 51) (.tmp 49) (by rfl) b 0 (tL MM).toArray ?e4 ?e5 ht2 Hi53.out (all_oneCell_toArray (gt MM)) (by rfl) ?e7))
     case e4=>go_simp
     case e5=>go_simp
     case e7=>
      refine wpAny_done (by kernel_rfl) ?_ _;have HB2:Hid (Below (World.drew W1).heap.size (World.drew W1) w2):=hb2;clear hb2 ht2
      go_wp2_with fail
      rw[oH];have hst:mY (.string ⟨(rest.drop n).toArray⟩)<mY (.string ⟨rest.toArray⟩):=by
       show(rest.drop n).toArray.size<rest.toArray.size;simp;omega
      have hbw:Below wr.heap.size (wr.setCells b (8+(L++q).length%64) (aA (rest.take n))) w2:=by
       rw[HH.out,←HW1.out];exact(Below.drew (Below.refl _ W1)).trans (HB2.out.mono (show wr.heap.size<=W1.heap.size from by rw[HWs.out];exact Nat.le_refl _))
      have hfu:=HD'.out.full (rest.take n) (by rw[HH.out,hlt];exact hfull) hbw (by rw[←HWs.out];exact hbW);rw[HH.out,HFF.out,HBB.out,HMM.out,List.append_assoc]at hfu;have hmod:(L++(q++rest.take n)).length%64=0:=by
       have:=HH.out;simp only[List.length_append,hlt]at this⊢;omega
      have hgr:w.grownBy W1 (some b):=(by rw[HW1.out];exact dG HG.out (dC _ _ _ _));exact⟨⟨q++rest.take n,rest.drop n,_,by rw[HQ.out];simp,rfl,by rw[hmod];rfl,hfu,dG hgr (dG (pR ((Below.drew (Below.refl _ W1)).trans HB2.out)) (dC _ _ _ _))⟩,hst⟩
    ·refine wpAny_all (rs:=[4]) (by kernel_rfl) (List.cons_ne_nil _ _) (fR (YieldsIf.wpOp (S:=λw'=>w'=World.drew W1) (v:= .agg (tL FF).toArray) rfl (yieldsIf_load_mid (by rfl) 163 (.tmp 43) rfl b 0 (by go_simp) (tL FF) _ (λw' hw'=>hw'▸eD c2) Lf.underlying163 rfl hi53) rfl ?_));refine wpAny_all (rs:=[9]) (by kernel_rfl) (List.cons_ne_nil _ _) (fR (tf rfl rfl 131 #[.agg (tL FF).toArray, .agg (aA BB).toArray] (by go_simp) (.agg (tL MM).toArray) _ Hmx.out λw2 hb2=> ?_));refine wT 10 (.pointer (some ⟨b,0,none⟩)) ?_;refine wT 11 (.pointer (some ⟨b,0,none⟩)) ?_;have ht2:w2.there b 0 (tL MM).toArray.size:=eu hb2 (show b<(World.drew W1).heap.size from hbW) Ht53.out;refine wpAny_all (rs:=[12]) (by kernel_rfl) (List.cons_ne_nil _ _) (fR (lw (by rfl) (by rfl) 163 (.tmp 51) (.tmp 49) (by rfl) b 0 (tL MM).toArray ?e4 ?e5 ht2 Hi53.out (all_oneCell_toArray (gt MM)) (by rfl) ?e7))
     case e4=>go_simp
     case e5=>go_simp
     case e7=>
      refine wpAny_done (by kernel_rfl) ?_ _;have HB2:Hid (Below (World.drew W1).heap.size (World.drew W1) w2):=hb2;clear hb2 ht2
      go_wp2_with fail
      rw[oH];have hst:mY (.string ⟨(rest.drop n).toArray⟩)<mY (.string ⟨rest.toArray⟩):=by
       show(rest.drop n).toArray.size<rest.toArray.size;simp;omega
      have hbw:Below wr.heap.size (wr.setCells b (8+(L++q).length%64) (aA (rest.take n))) w2:=by
       rw[HH.out,←HW1.out];exact(Below.drew (Below.refl _ W1)).trans (HB2.out.mono (show wr.heap.size<=W1.heap.size from by rw[HWs.out];exact Nat.le_refl _))
      have hfu:=HD'.out.full (rest.take n) (by rw[HH.out,hlt];exact hfull) hbw (by rw[←HWs.out];exact hbW);rw[HH.out,HFF.out,HBB.out,HMM.out,List.append_assoc]at hfu;have hmod:(L++(q++rest.take n)).length%64=0:=by
       have:=HH.out;simp only[List.length_append,hlt]at this⊢;omega
      have hgr:w.grownBy W1 (some b):=(by rw[HW1.out];exact dG HG.out (dC _ _ _ _));exact⟨⟨q++rest.take n,rest.drop n,_,by rw[HQ.out];simp,rfl,by rw[hmod];rfl,hfu,dG hgr (dG (pR ((Below.drew (Below.refl _ W1)).trans HB2.out)) (dC _ _ _ _))⟩,hst⟩
   ·have hfb:(((h:Int)+(n:Int))==64)=false:=by rw[beq_eq_false_iff_ne];omega
    go_wp2_with fail
    rw[oH];have hlt:(rest.take n).length=n:=(by simp;omega);have hst:mY (.string ⟨(rest.drop n).toArray⟩)<mY (.string ⟨rest.toArray⟩):=by
     show(rest.drop n).toArray.size<rest.toArray.size;simp;omega
    have hmo:=HD'.out.more (rest.take n) (by rw[HH.out,hlt];omega);have hmod:(L++(q++rest.take n)).length%64=h+n:=by
     have:=HH.out;simp only[List.length_append,hlt]at this⊢;omega
    rw[HH.out,List.append_assoc]at hmo;exact⟨⟨q++rest.take n,rest.drop n,_,by rw[HQ.out];simp,rfl,by rw[hmod];simp,hmo,dG HG.out (dC _ _ _ _)⟩,hst⟩
end
section
variable{ql:Bool}
open Go.RowKit
theorem Lf.size57:((jx ql Tryz.prog).info? 166).map (·.size)=some 73:=by kernel_rfl
theorem FX(w:World):
 Calls (jx ql Tryz.prog) 110 #[] w λe w'=>e= .returned (.agg jR.toArray)/\Below w.heap.size w w':=by
 have a:jR.toArray.size=73:=by rw[List.size_toArray,eE]
 have f:((jx ql Tryz.prog).info? 166).map (·.size)=some jR.toArray.size:=by rw[a];exact Lf.size57
 have b:(w.alloc (.cells Tryz.zeroCells166 166)).there w.heap.size 0 jR.toArray.size:=by rw[a];exact cI _ _ _ _ _ rfl (by kernel_rfl)
 have d:Hid ((w.alloc (.cells Tryz.zeroCells166 166)).there w.heap.size 0 jR.toArray.size):=b;have c:Hid ((w.alloc (.cells Tryz.zeroCells166 166)).there w.heap.size 0 jR.length):=by show World.there _ _ _ jR.length;rw[eE];exact cI _ _ _ _ _ rfl (by kernel_rfl)
 have g:Hid (((jx ql Tryz.prog).info? 166).map (·.size)=some jR.toArray.size):=f;clear a f b
 go_enter Lf.func110,Tryz.ntmps110
 go_wp2_with (first
  |refine wpList_buildTo rfl 166 #[(0, .tmp 1)] rfl (some 2) rfl jR.toArray (by kernel_rfl) ?_
  |refine wpList_store_mid rfl 166 (.tmp 0) (.tmp 2) rfl w.heap.size 0 jR.toArray rfl rfl d.out g.out (all_oneCell_toArray (xB _ _ _)) ?_)
 exact bodyPost_ret (v:= .agg jR.toArray) (dz (p:=0) (ty:=166) (by kernel_rfl) _ _ w.heap.size 0 jR _ rfl (World.rangeAt_setCells_same _ _ _ _ c.out) Lf.underlying166 rfl (by rw[eE];exact Lf.size57)) rfl ⟨rfl,cx (Nat.le_refl _) _ _ _ _ ((bR).alloc (Nat.le_refl _) _)⟩
end
section
variable{ql:Bool}
open Go.RowKit
theorem F9(x:Int)(h:0<=x)(w:World):
 Calls (jx ql Tryz.prog) 132 #[.int .u64 x] w λe w'=>e= .returned (.string ⟨(cg x.toNat 8).toArray⟩)/\Below w.heap.size w w':=by
 obtain⟨n,rfl⟩:=Int.eq_ofNat_of_zero_le h;exact Fa n w
theorem Fg(KS:List Int)(L blk:List UInt8)(w:World)(hbl:blk.length=64)(htl:blk.take (L.length%64)=L.drop (64*(L.length/64)))(hK:w.rangeAt 0 0 (tL KS))(hKl:KS.length=64)(h0:0<w.heap.size)
 (hlen:L.length<=576460752303423488):
 Calls (jx ql Tryz.prog) 112 #[.agg (iR (i8 KS L (L.length/64)) blk L.length).toArray] w λe w'=>e= .returned (.string ⟨(dx KS L).toArray⟩)/\Below w.heap.size w w':=by
 have hD:=dS.made w KS L blk L.length 166 hbl htl;generalize iR (i8 KS L (L.length/64)) blk L.length=DC at*;have HD:Hid (dS (w.alloc (.cells DC.toArray 166)) w.heap.size KS L blk L.length):=hD;have HK:Hid (w.rangeAt 0 0 (tL KS)):=hK;have Hlen:Hid (L.length<=576460752303423488):=hlen;have hc:=hD.length;have h8:8*(L.length:Int)<=9223372036854775807:=by omega
 clear hD hK hbl htl hlen
 go_enter Lf.func112,Tryz.ntmps112
 go_wp2_with fail
 refine(F9 _ (by omega) _).mono ?_;rintro e w1 ⟨rfl,hb1⟩;rw[show(8*(L.length:Int)).toNat=8*L.length from by omega];have hz1:w.heap.size<w1.heap.size:=by have:=hb1.size;simp at this;omega
 have hD1:=HD.out.below hb1 (by simp);have hc1:=hD1.length;have HD1:Hid (dS w1 w.heap.size KS L blk L.length):=hD1;have Hb1:Hid (Below w.heap.size w w1):=((bR).alloc (Nat.le_refl _) _).trans (hb1.mono (by simp));have hos:(ByteArray.mk (cg (8*L.length) 8).toArray).size=8:=by show(cg (8*L.length) 8).toArray.size=8;simp[bZ]
 generalize hO:cg (8*L.length) 8=O at*;have HO:Hid (cg (8*L.length) 8=O):=hO;clear hD1 hb1 hO hc
 go_wp2_with fail
 obtain⟨c,hcc⟩:∃c:Nat,c=(119- L.length%64)%64:=⟨_,rfl⟩;rw[show((119-(L.length:Int))%64)=(c:Int)from by omega];refine(Lf.strings_Repeat (q:=ql) _ c _ (by omega) (by show 1*c<=_;omega)).mono ?_;rintro e w2 ⟨rfl,hb2⟩;have hz2:w.heap.size<w2.heap.size:=by have:=hb2.size;omega
 have HD2:Hid (dS w2 w.heap.size KS L blk L.length):=HD1.out.below hb2 hz1;have Hb2:Hid (Below w.heap.size w w2):=Hb1.out.trans (hb2.mono (by omega));have HC:Hid (c=(119- L.length%64)%64):=hcc;generalize hR:Lib.repeatL (ByteArray.mk #[0]).data.toList c=R at*;have HR:Hid (Lib.repeatL (ByteArray.mk #[0]).data.toList c=R):=hR;have hRl:R.length<=64:=by rw[←hR,Lib.repeatL_length];show c*1<=64;omega
 have hO8:O.length=8:=by rw[←HO.out,bZ]
 clear hb2 hR hcc hc1 hos;have hsd:(ByteArray.mk #[128]++ByteArray.mk R.toArray++ByteArray.mk O.toArray).data.toList=fV L:=by
  rw[fV,←HC.out,←HR.out,←HO.out];simp
 have hss:(ByteArray.mk #[128]++ByteArray.mk R.toArray++ByteArray.mk O.toArray).size=(fV L).length:=by
  rw[←hsd,Array.length_toList];rfl
 have hpl:(fV L).length<=73:=by rw[←hsd];simp;omega
 go_wp2_with fail
 generalize ByteArray.mk #[128]++ByteArray.mk R.toArray++ByteArray.mk O.toArray=sp at*;refine(te KS L blk sp w2 w.heap.size HD2.out (aM Hb2.out h0 HK.out) hKl h0 hz2 (by have:=Hlen.out;omega)).mono ?_;rintro e w3 ⟨rfl,hg3,blk3,hD3⟩;rw[hsd]at hD3;have HG3:Hid (w2.grownBy w3 (some w.heap.size)):=hg3;have HD3:Hid (dS w3 w.heap.size KS (L++fV L) blk3 (L.length+sp.size)):=hD3;have hz3:w.heap.size<w3.heap.size:=by have:=hg3.size;omega
 have hmk:∀W,(Instr.makeSlice 83 (.i 32) (.i 32)).run (jx ql Tryz.prog) W= .ok (.slice (some ⟨W.heap.size,0,none⟩) 32 32) (W.alloc (.cells (madeCells #[.int .u8 0] 32) 5)):=
  λW=>run_make_row' (P:=(jx ql Tryz.prog)) 83 5 (.int .u8 0) 1 Lf.underlying83 Lf.info5 rfl .i64 .i64 32 (by omega) (by omega) W
 clear hg3 hD3 hsd hss hpl
 go_wp2
 have hHl:(i8 KS (L++fV L) ((L++fV L).length/64)).length=8:=cm _ _ _;have hwr:=HD3.out.words;generalize hH:i8 KS (L++fV L) ((L++fV L).length/64)=H at hHl hwr;have HH:Hid (i8 KS (L++fV L) ((L++fV L).length/64)=H):=hH;have Hwr:Hid (w3.rangeAt w.heap.size 0 (tL H)):=hwr;have HHl:Hid (H.length=8):=hHl;clear hH hwr hHl hmk
 go_loopw [7,31] (λ_ i wr=>∃k:Nat,k<=32/\i= .i k/\wr=w3.alloc (.cells (qk H k).toArray 5)) (λ_ i _=>32-(intOf i).toNat)
 case atStart=>exact⟨0,by omega,rfl,by rw[dp];rfl⟩
 case round=>
  obtain⟨k,hk,rfl,rfl⟩:=hrel;by_cases hlt:k<32
  ·have hg:=wO H k hlt;have hln:=pF H k hk;have hcw:=λo:Obj=>World.cell?_alloc_past (w:=w3) o w.heap.size (k/4) hz3;have hcv:w3.cell? ⟨w.heap.size,k/4,none⟩=some (.int .u32 (H.getD (k/4) 0)):=fK Hwr.out (k/4) (by rw[HHl.out];omega);generalize hx:H.getD (k/4) 0=x at hcv;have HX:Hid (H.getD (k/4) 0=x):=hx;clear hx;have b1:(k:Int)/4<8:=(by omega);have b2:(0:Int)<=(k:Int)/4:=(by omega);have b3:(0:Int)<=24- 8*((k:Int)%4):=(by omega);have hx0:Hid (0<=x):=by show 0<=x;rw[←HX.out,←HH.out];exact mJ _ _ _ _
   go_wp2
   go_roundw
   case rel=>exact⟨k+1,by omega,by go_num,by rw[wN H k hlt _ (wJ H k x HX.out hx0.out)]⟩
   case measure=>simp[intOf];omega
  ·have hk32:k=32:=(by omega);subst hk32;clear hlt hk;rw[wP];have hcv:=run_convert_bytes_back (P:=(jx ql Tryz.prog)) (w3.alloc (.cells (aA ((List.range 32).map (nf H))).toArray 5)) 83 9 5 ⟨w3.heap.size,0,none⟩ 32 ((List.range 32).map (nf H)) Lf.underlying83 Lf.underlying5 Lf.underlying9
    (λj hj=>by rw[Addr.add_mid,World.cell?_alloc_at _ _ _ _ rfl];simp[aA]at hj⊢;simp[hj])
   rw[show((List.range 32).map (nf H)).length=32 from by simp]at hcv;generalize hZ:(List.range 32).map (nf H)=Z at*;have HZ:Hid (dx KS L=Z):=(by show dx KS L=Z;rw[dx,HH.out,hZ]);clear hZ
   go_wp2
   go_ret
   refine⟨nW HZ.out.symm, ?_⟩;exact(lY Hb2.out HG3.out (Nat.le_refl _)).alloc (by omega) _
end
section
variable{ql:Bool}
open Go.RowKit
theorem DD(KS:List Int)(ps:List ByteArray)(cap:Nat)(w:World)(b:Nat)(hb:b<w.heap.size)(hcell:∀k (h:k<ps.length),w.cell? ⟨b,k,none⟩=some (.string ps[k]))(hK:w.rangeAt 0 0 (tL KS))(hKl:KS.length=64)
 (hlen:(dq ps ps.length).length<=576460752303423488) (hn:ps.length<=1152921504606846976):
 Calls (jx ql Tryz.prog) 91 #[.slice (some ⟨b,0,none⟩) ps.length cap] w λe w'=>e= .returned (.string ⟨(dx KS (dq ps ps.length)).toArray⟩)/\Below w.heap.size w w':=by
 have HK:Hid (w.rangeAt 0 0 (tL KS)):=hK;have Hc:Hid (∀k (h:k<ps.length),w.cell? ⟨b,k,none⟩=some (.string ps[k])):=hcell;have Hlen:Hid ((dq ps ps.length).length<=576460752303423488):=hlen;have hsz:jR.toArray.size=73:=by rw[List.size_toArray,eE]
 have Hi:Hid (((jx ql Tryz.prog).info? 166).map (·.size)=some jR.toArray.size):=by show _=some jR.toArray.size;rw[hsz];exact Lf.size57
 clear hK hcell hlen
 go_enter Lf.func91,Tryz.ntmps91
 go_wp2_with fail
 refine(FX _).mono ?_;rintro e w1 ⟨rfl,hb1⟩;have hs1:=hb1.size;have hth:(w1.alloc (.cells Tryz.zeroCells166 166)).there w1.heap.size 0 73:=cI _ _ _ _ _ rfl (by kernel_rfl);have hst:=run_storeCells_cells (P:=(jx ql Tryz.prog)) w1.heap.size 0 jR 0 (w1.alloc (.cells Tryz.zeroCells166 166)) (λj hj=>by rw[eE]at hj;exact(hth j hj).1) (λj hj=>by rw[eE]at hj;exact(hth j hj).2) (xB _ _ _);simp only[Nat.add_zero]at hst;have HD1:Hid (dS ((w1.alloc (.cells Tryz.zeroCells166 166)).setCells w1.heap.size 0 jR) w1.heap.size KS [] (List.replicate 64 0) 0):=dS.new w1 KS _ _ (by kernel_rfl);have Hb1:Hid (Below w.heap.size w w1):=hb1;clear hb1 hsz hth Hi
 go_wp2
 clear hst
 go_loopw [5,9] (λ_ i wr=>∃(k:Nat) (blk:List UInt8),k<=ps.length/\i= .i k/\dS wr w1.heap.size KS (dq ps k) blk (dq ps k).length/\Below w.heap.size w wr/\w1.heap.size<wr.heap.size) (λ_ i _=>ps.length-(intOf i).toNat)
 case atStart=>exact⟨0,List.replicate 64 0,Nat.zero_le _,rfl,HD1.out,cx hs1 _ _ _ _ (Hb1.out.alloc hs1 _),by rw[eZ];simp⟩
 case round=>
  obtain⟨k,blk,hk,rfl,hD,hB,hz⟩:=hrel;have HD:Hid (dS wr w1.heap.size KS (dq ps k) blk (dq ps k).length):=hD;have HB:Hid (Below w.heap.size w wr):=hB;clear hD hB HD1;by_cases hlt:k<ps.length
  ·have hcl:wr.cell? ⟨b,k,none⟩=some (.string ps[k]):=(by rw[HB.out.cell (p:=⟨b,k,none⟩) hb];exact Hc.out k hlt);have hlt':(k:Int)<(ps.length:Int):=(by omega);generalize hp:ps[k]=p at hcl;have HP:Hid (dq ps (k+1)=dq ps k++p.data.toList):=(by show dq ps (k+1)=_;rw[Cx ps k hlt,hp]);have hpl:(dq ps k).length+p.size<=4611686018427387904:=by
    have h1:=GF ps (k+1);have h2:=HP.out;have h3:=Hlen.out;have h4:p.data.toList.length=p.size:=(by rw[Array.length_toList];rfl);rw[h2,List.length_append,h4]at h1;omega
   clear hp
   go_wp2_with fail
   refine(te KS (dq ps k) blk p wr w1.heap.size HD.out (aM HB.out (by omega) HK.out) hKl (by omega) hz hpl).mono ?_;rintro e w4 ⟨rfl,hg4,blk4,hD4⟩;have hz4:w1.heap.size<w4.heap.size:=(by have:=hg4.size;omega);have hB4:Below w.heap.size w w4:=lY HB.out hg4 hs1;have h4:p.data.toList.length=p.size:=(by rw[Array.length_toList];rfl);have HD4:Hid (dS w4 w1.heap.size KS (dq ps (k+1)) blk4 (dq ps (k+1)).length):=by
    show dS w4 w1.heap.size KS (dq ps (k+1)) blk4 (dq ps (k+1)).length;rw[HP.out,List.length_append,h4];exact hD4
   have HB4:Hid (Below w.heap.size w w4):=hB4;clear hg4 hD4 hB4 h4 hpl
   go_wp2
   go_roundw
   case rel=>exact⟨k+1,blk4,by omega,by go_num,HD4.out,HB4.out,hz4⟩
   case measure=>simp[intOf];omega
  ·have hkl:k=ps.length:=(by omega);subst hkl;clear hlt hk;have hdl:=xC KS (dq ps ps.length) blk (dq ps ps.length).length ((dq ps ps.length).length/64) HD.out.len;have hi57:((jx ql Tryz.prog).info? 166).map (·.size)=some (iR (i8 KS (dq ps ps.length) ((dq ps ps.length).length/64)) blk (dq ps ps.length).length).length:=(by rw[hdl];exact Lf.size57);have Hwh:Hid (wr.rangeAt w1.heap.size 0 (iR (i8 KS (dq ps ps.length) ((dq ps ps.length).length/64)) blk (dq ps ps.length).length)):=HD.out.whole;have hsum:=Fg (ql:=ql) KS (dq ps ps.length) blk wr HD.out.len HD.out.tail (aM HB.out (by omega) HK.out) hKl (by omega) Hlen.out;generalize iR (i8 KS (dq ps ps.length) ((dq ps ps.length).length/64)) blk (dq ps ps.length).length=DC at*;have Hsum:Hid (Calls _ _ _ _ _):=hsum;have Hi57:Hid (((jx ql Tryz.prog).info? 166).map (·.size)=some DC.length):=hi57;clear hsum hdl hi57
   go_wp2_with (refine wpList_load_mid rfl 166 (.tmp 3) rfl w1.heap.size 0 rfl DC _ Hwh.out Lf.underlying166 rfl Hi57.out ?_)
   refine Hsum.out.mono ?_;rintro e w5 ⟨rfl,hb5⟩
   go_wp2
   go_ret
   exact⟨rfl,HB.out.trans (hb5.mono (by have:=HB.out.size;omega))⟩
end
section
variable{ql:Bool}
open Go Go.Conc Go.RowKit
section
variable{w:World}{b:Nat}{s:cA}{ev:Operand->Value}{o:Oper}{x y z:Operand}
theorem aG:EX (jx ql Tryz.prog) 3:=λw=>⟨by kernel_rfl,by kernel_rfl⟩
theorem aQ:EX (jx ql Tryz.prog) 9:=λw=>⟨by kernel_rfl,by kernel_rfl⟩
theorem od:EX (jx ql Tryz.prog) 24:=λw=>⟨by kernel_rfl,by kernel_rfl⟩
theorem pG:EX (jx ql Tryz.prog) 43:=λw=>⟨by kernel_rfl,by kernel_rfl⟩
theorem tM{ad:Addr}(d:EX (jx ql Tryz.prog) t)(a:o.op= .load t x)(b:ev x= .pointer (some ad))(h:w.cell? ad=some v):Yl (jx ql Tryz.prog) ev o w v #[⟨.cell ad,false,false⟩]:=by
 obtain⟨c,e⟩:=d w;constructor
 ·simp[execOp,a,b,Instr.loadAt,loadVar,c,h,go_sem]
 ·simp[execOp,a,b,Instr.loadAt,loadVar,c,e,h,go_sem]
theorem jC{ex:Array Value}(e:o.op= .load 119 x)(t:ev x= .pointer (some ⟨b,0,none⟩))(h:w.heap[b]?=some (.cells (s.cells++ex) 119)):Yl (jx ql Tryz.prog) ev o w (.agg s.cells) (kG b):=by
 have u:(isAgg 119).run (jx ql Tryz.prog) w= .ok true w:=by kernel_rfl
 have y:(isAgg 119).events (jx ql Tryz.prog) w #[]=#[]:=by kernel_rfl
 have a:∀k,k<12->w.cell? ⟨b,k,none⟩=s.cells[k]?:=λk v=>(o9 h k).trans (Array.getElem?_append_left v);have r:w.cell? ⟨b,0,none⟩=some (.string s.tree):=a 0 (by decide);have q:w.cell? ⟨b,1,none⟩=some (.string s.chains):=a 1 (by decide);have p:w.cell? ⟨b,2,none⟩=some (.string s.id):=a 2 (by decide);have n:w.cell? ⟨b,3,none⟩=some (.string s.root):=a 3 (by decide);have m:w.cell? ⟨b,4,none⟩=some (.i s.height):=a 4 (by decide);have l:w.cell? ⟨b,5,none⟩=some (.i s.width):=a 5 (by decide);have j:w.cell? ⟨b,6,none⟩=some (.i s.count):=a 6 (by decide);have i:w.cell? ⟨b,7,none⟩=some (.i s.shift):=a 7 (by decide);have g:w.cell? ⟨b,8,none⟩=some (.i s.q):=a 8 (by decide);have f:w.cell? ⟨b,9,none⟩=some (.string s.salt):=a 9 (by decide);have d:w.cell? ⟨b,10,none⟩=some (.string s.links):=a 10 (by decide);have c:w.cell? ⟨b,11,none⟩=some (.string s.path):=a 11 (by decide);constructor
 ·simp[execOp,e,t,Instr.loadAt,loadVar,u,loadCells,loadCellsFrom,Addr.add,r,q,p,n,m,l,j,i,g,f,d,c,cA.cells,go_sem]
 ·simp[execOp,e,t,Instr.loadAt,loadVar,u,y,loadCells,loadCellsFrom,Addr.add,r,q,p,n,m,l,j,i,g,f,d,c,kG,go_sem]
theorem qG(a:o.op= .fieldAddr 119 x 0)(c:ev x= .pointer (some ⟨b,k,none⟩)):Yl (jx ql Tryz.prog) ev o w (.pointer (some ⟨b,k,none⟩)) #[]:=by
 have e:execOp ev o=(do pure (.value (←Instr.fieldAt 119 (.pointer (some ⟨b,k,none⟩)) 0))):=by simp only[execOp,a,c]
 unfold Yl;rw[e];constructor<;>kernel_rfl
theorem vK(a:o.op= .fieldAddr 115 x 6)(c:ev x= .pointer (some ⟨b,0,none⟩)):Yl (jx ql Tryz.prog) ev o w (.pointer (some ⟨b,6,none⟩)) #[]:=by
 have e:execOp ev o=(do pure (.value (←Instr.fieldAt 115 (.pointer (some ⟨b,0,none⟩)) 6))):=by simp only[execOp,a,c]
 unfold Yl;rw[e];constructor<;>kernel_rfl
theorem CN(a:o.op= .fieldAddr 119 x 3)(c:ev x= .pointer (some ⟨b,0,none⟩)):Yl (jx ql Tryz.prog) ev o w (.pointer (some ⟨b,10,none⟩)) #[]:=by
 have e:execOp ev o=(do pure (.value (←Instr.fieldAt 119 (.pointer (some ⟨b,0,none⟩)) 3))):=by simp only[execOp,a,c]
 unfold Yl;rw[e];constructor<;>kernel_rfl
theorem cH{m n:Int}(a:o.op= .binOp .lss 3 x y u)(c:ev x= .i m)(b:ev y= .i n):Yl (jx ql Tryz.prog) ev o w (.bool (decide (m<n))) #[]:=by
 constructor<;>simp[execOp,a,c,b,go_sem]
theorem lv{m n:Int}(a:o.op= .binOp .add 3 x y u)(c:ev x= .i m)(b:ev y= .i n)(h: -9223372036854775808<=m+n/\m+n<9223372036854775808):Yl (jx ql Tryz.prog) ev o w (.i (m+n)) #[]:=by
 have e:IntKind.i64.wrap (m+n)=m+n:=by rw[IntKind.wrap_i64];omega
 constructor<;>simp[execOp,a,c,b,go_sem,e]
theorem dH{m n:Int}(a:o.op= .binOp .mul 3 x y u)(c:ev x= .i m)(b:ev y= .i n)(h: -9223372036854775808<=m*n/\m*n<9223372036854775808):Yl (jx ql Tryz.prog) ev o w (.i (m*n)) #[]:=by
 have e:IntKind.i64.wrap (m*n)=m*n:=by rw[IntKind.wrap_i64];omega
 constructor<;>simp[execOp,a,c,b,go_sem,e]
theorem lu(a:o.op= .unOp .not t x)(b:ev x= .bool q):Yl (jx ql Tryz.prog) ev o w (.bool (!q)) #[]:=by
 constructor<;>simp[execOp,a,b,go_sem,Op.unary]
theorem cV{t:ByteArray}(a:o.op= .slice 9 x (some y) (some z) none)(d:ev x= .string t)(c:ev y= .i m)(b:ev z= .i n)(h:m<=n)(f:n<=t.size):Yl (jx ql Tryz.prog) ev o w (.string (t.extract m n)) #[]:=by
 have e:(jx ql Tryz.prog).underlying 9=some .string:=by kernel_rfl
 constructor
 ·simp[execOp,a,d,c,b,Instr.sliceAt,Instr.slice,Instr.sliceBounds,run_underlying e,Instr.sliceBound,asIntOf,h,f]
 ·simp[execOp,a,d,c,b,Instr.sliceAt,Instr.slice,Instr.sliceBounds,run_underlying e,Instr.sliceBound,asIntOf,h,f,go_sem]
theorem eq{e:TypeId}{a:Addr}{len cap:Nat}(f:(jx ql Tryz.prog).underlying t=some (.slice e))(h:∀w:World,(sizeOf e).run (jx ql Tryz.prog) w= .ok 1 w)(b:o.op= .indexAddr t x y)(d:ev x= .slice (some a) len cap)(c:ev y= .i n)(g:n<len):
 Yl (jx ql Tryz.prog) ev o w (.pointer (some (a.add n))) #[]:=by
 have i:=h w;constructor<;>simp[execOp,b,d,c,go_sem,f,i,g]
theorem ij(a:o.op= .alloc 3):Mk (jx ql Tryz.prog) ev o w #[.i 0] 3:=by
 have e:execOp ev o=(do pure (.value (←Instr.alloc 3 true (.tuple #[])))):=by simp only[execOp,a]
 unfold Mk;rw[e];constructor<;>kernel_rfl
theorem jS(a:o.op= .alloc 43):Mk (jx ql Tryz.prog) ev o w #[.slice none 0 0] 43:=by
 have e:execOp ev o=(do pure (.value (←Instr.alloc 43 true (.tuple #[])))):=by simp only[execOp,a]
 unfold Mk;rw[e];constructor<;>kernel_rfl
theorem ey{b:Nat}{v0:Value}(hv:v.cells=#[v])(a:v.oneCell'=true)(d:(sizeOf t).run (jx ql Tryz.prog) w= .ok 1 w)(c:o.op= .store t x y)(i:ev x= .pointer (some ⟨b,k,none⟩))(g:ev y=v)(h:w.cell? ⟨b,k,none⟩=some v0)(f:w.frozen? ⟨b,k,none⟩=false):
 (execOp ev o).run (jx ql Tryz.prog) w= .ok .skip (w.setCell ⟨b,k,none⟩ v)/\(execOp ev o).events (jx ql Tryz.prog) w #[]=#[⟨.cell ⟨b,k,none⟩,true,false⟩]:=by
 have e:execOp ev o=(do Instr.storeAt t (.pointer (some ⟨b,k,none⟩)) v;pure .skip):=by simp only[execOp,c,i,g]
 rw[e];simp only[Instr.storeAt,storeVar,hv];constructor
 ·simp[d,storeCells,Addr.add,run_store _ _ _ _ _ a,h,f,go_sem]
 ·simp[d,storeCells,Addr.add,events_store (hv:=a),h,f,go_sem]
end
end
section
variable{ql:Bool}
open Go.RowKit
theorem Hh(n:Nat)(c:n<9223372036854775808)(w:World):
 Calls (jx ql Tryz.prog) 151 #[.i n] w λe w'=>e= .returned (.string ⟨(cg n 1).toArray⟩)/\Below w.heap.size w w':=by
 have b:IntKind.u64.wrap (n:Int)=n:=by rw[IntKind.wrap_u64];omega
 go_enter Lf.func151,Tryz.ntmps151
 go_wp2_with (go_at_call 106;refine(nH n 1 _ (by omega)).mono ?_;rintro e w' ⟨rfl,a⟩)
 go_ret
 exact⟨rfl,a⟩
theorem mg(n:Nat)(c:n<9223372036854775808)(w:World):
 Calls (jx ql Tryz.prog) 92 #[.i n] w λe w'=>e= .returned (.string ⟨(cg n 2).toArray⟩)/\Below w.heap.size w w':=by
 have b:IntKind.u64.wrap (n:Int)=n:=by rw[IntKind.wrap_u64];omega
 go_enter Lf.func92,Tryz.ntmps92
 go_wp2_with (go_at_call 106;refine(nH n 2 _ (by omega)).mono ?_;rintro e w' ⟨rfl,a⟩)
 go_ret
 exact⟨rfl,a⟩
theorem qy(n:Nat)(c:n<9223372036854775808)(w:World):
 Calls (jx ql Tryz.prog) 89 #[.i n] w λe w'=>e= .returned (.string ⟨(cg n 4).toArray⟩)/\Below w.heap.size w w':=by
 have b:IntKind.u64.wrap (n:Int)=n:=by rw[IntKind.wrap_u64];omega
 go_enter Lf.func89,Tryz.ntmps89
 go_wp2_with (go_at_call 106;refine(nH n 4 _ (by omega)).mono ?_;rintro e w' ⟨rfl,a⟩)
 go_ret
 exact⟨rfl,a⟩
theorem A1(s:cA)(n:Nat)(b:s.width=n)(c:n<=8)(w:World):
 Calls (jx ql Tryz.prog) 108 #[.agg s.key] w λe w'=>e= .returned (.i (bQ n))/\Below w.heap.size w w':=by
 have a:n=0\/n=1\/n=2\/n=3\/n=4\/n=5\/n=6\/n=7\/n=8:=by omega
 unfold cA.key;rw[b];rcases a with rfl|rfl|rfl|rfl|rfl|rfl|rfl|rfl|rfl
 all_goals
  go_enter Lf.func108,Tryz.ntmps108
  go_wp2
  go_ret
  exact⟨by simp[bQ],ox w _⟩
end
section
variable{ql:Bool}
open Go Go.Conc Go.RowKit
theorem Iw:Tryz.f120.body=some (.seq (.region 0 (gT Tryz.f120 0) false) (.seq (.region 1 (gT Tryz.f120 1) true) (.seq (.seq (.region 2 (gT Tryz.f120 2) false)
 (.block 0 (.rangeFunc (.tmp 24) #[25] (.region 3 (gT Tryz.f120 3) false) (.block 1 (.region 4 (gT Tryz.f120 4) true))))) (.seq (.region 5 (gT Tryz.f120 5) false) .ret)))):=by kernel_rfl
theorem Bj(a:Array Value)(d:Int)(w:World):
 Calls (jx ql Tryz.prog) 150 #[.agg a, .i d] w λe w'=>e= .returned (.func (.func 173) #[] #[.pointer (some ⟨w.heap.size+1,0,none⟩), .pointer (some ⟨w.heap.size,0,none⟩)])/\w'=(w.alloc (.cells a 115)).alloc (.cells #[.i d] 3):=by
 go_enter Lf.func150,Tryz.ntmps150
 go_wp2
 go_ret
 exact⟨by simp,rfl⟩
section
variable{w:World}{b:Nat}{s:cA}{ev:Operand->Value}{o:Oper}{x y:Operand}
theorem Jy(a:o.op= .fieldAddr 115 x 2)(c:ev x= .pointer (some ⟨b,0,none⟩)):Yl (jx ql Tryz.prog) ev o w (.pointer (some ⟨b,2,none⟩)) #[]:=by
 have e:execOp ev o=(do pure (.value (←Instr.fieldAt 115 (.pointer (some ⟨b,0,none⟩)) 2))):=by simp only[execOp,a,c]
 unfold Yl;rw[e];constructor<;>kernel_rfl
theorem Ky(a:o.op= .fieldAddr 119 x 1)(c:ev x= .pointer (some ⟨b,0,none⟩)):Yl (jx ql Tryz.prog) ev o w (.pointer (some ⟨b,8,none⟩)) #[]:=by
 have e:execOp ev o=(do pure (.value (←Instr.fieldAt 119 (.pointer (some ⟨b,0,none⟩)) 1))):=by simp only[execOp,a,c]
 unfold Yl;rw[e];constructor<;>kernel_rfl
theorem gg{cs:Array Value}(c:o.op= .load 115 x)(n:ev x= .pointer (some ⟨b,0,none⟩))(h:w.heap[b]?=some (.cells cs t))(a:∀i,i<8->cs[i]?=s.key[i]?):(execOp ev o).run (jx ql Tryz.prog) w= .ok (.value (.agg s.key)) w:=by
 have q:(isAgg 115).run (jx ql Tryz.prog) w= .ok true w:=by kernel_rfl
 have p:=o9 h;have m:=a 0 (by decide);have l:=a 1 (by decide);have k:=a 2 (by decide);have j:=a 3 (by decide);have g:=a 4 (by decide);have f:=a 5 (by decide);have e:=a 6 (by decide);have d:=a 7 (by decide);simp[cA.key]at m l k j g f e d;simp[execOp,c,n,Instr.loadAt,loadVar,q,loadCells,loadCellsFrom,Addr.add,p,m,l,k,j,g,f,e,d,cA.key,go_sem]
theorem bA{t u:ByteArray}{z:TypeId}(a:o.op= .binOp .add 9 x y z)(c:ev x= .string t)(b:ev y= .string u)(h:t.size+u.size<=9223372036854775807):(execOp ev o).run (jx ql Tryz.prog) w= .ok (.value (.string (t++u))) w:=by
 simp[execOp,a,c,b,h,go_sem]
theorem tW(a:o.op= .alloc 9):Mk (jx ql Tryz.prog) ev o w #[.string ⟨#[]⟩] 9:=by
 have e:execOp ev o=(do pure (.value (←Instr.alloc 9 true (.tuple #[])))):=by simp only[execOp,a]
 unfold Mk;rw[e];constructor<;>kernel_rfl
end
end
section
variable{ql:Bool}
open Go Go.Conc Go.RowKit
theorem KQ:AD (gT Tryz.f120 1)=true:=by kernel_rfl
section
variable{s:cA}{b4 b7 i:Nat}{d:Int}{Goal:Goroutine->World->Prop}{k:List Item}{cs:List Frame}
theorem KJ{link:ByteArray}(D:zV s i d link)(h4:w.heap[b4]?=some (.cells s.cells 119))(hF:∀p∈G5 b4 b7 i d,a.tmps[p.1]?=some p.2)(hz:33<=a.tmps.size)(a3:a.defers=[])
 (next:∀a' w' b9,aJ [(9, .pt b9),(1, .i i),(2, .i d),(4, .pt b4),(7, .pt b7)] 33 [] a'->Below w.heap.size w w'->w.heap.size<=b9->w'.heap[b9]?=some (.cells #[.string (xM s i)] 9)->Rn (jx ql Tryz.prog) Goal ((base 120).atR a' k) cs w'):
 Rn (jx ql Tryz.prog) Goal ((base 120).atR a (.code (.region 1 (gT Tryz.f120 1) true)::k)) cs w:=by
 have hq:(s.q.toNat:Int)=s.q:=Int.toNat_of_nonneg D.q.1;have a5:=D.q.2;refine Rn.draw λt=> ?_;have O:Region.schedule (((jx ql Tryz.prog)).follows .mixedOrders) (gT Tryz.f120 1) t=Region.linearise .any (gT Tryz.f120 1) t:=by
  unfold Region.schedule;rw[show Region.departs (gT Tryz.f120 1)=false from by kernel_rfl];simp
 rw[O];refine Rn.ordered (zy KQ) (λf a w'=>ff (G5 b4 b7 i d) (Bd s b4 i) 33 f a/\Below w.heap.size w w'/\Al w (xM s i) 9 f a w'/\(f[11]?=some true->∀n,n<11->f[n]?=some true)) (λf a w' M h=> ?_) (λf a w' m o L a4 g hm j h r=> ?_) t a _ ⟨⟨a3,hz,hF,λp H hl=> ?_⟩,gv w,λh=> ?_,λh=> ?_⟩
 ·obtain⟨z,E,I,u⟩:=h;obtain⟨p,K,H,x,N,W⟩:=I (M 10 (by decide));rw[W (M 11 (by decide))]at N;refine Rn.p rfl (next a w' p ⟨z.defers,z.size,λe v J=> ?_⟩ E H N);by_cases q9:e=9
  ·subst q9;simp only[List.lookup,beq_self_eq_true,Option.some.injEq]at J;subst J;exact K
  by_cases q1:e=1
  ·subst q1;simp[List.lookup]at J;subst J;exact z.fixed _ (mG (i:=0) rfl)
  by_cases q2:e=2
  ·subst q2;simp[List.lookup]at J;subst J;exact z.fixed _ (mG (i:=1) rfl)
  by_cases q4:e=4
  ·subst q4;simp[List.lookup]at J;subst J;exact z.fixed _ (mG (i:=2) rfl)
  by_cases q7:e=7
  ·subst q7;simp[List.lookup]at J;subst J;exact z.fixed _ (mG (i:=3) rfl)
  simp[List.lookup,show(e==9)=false from by simpa using q9,show(e==1)=false from by simpa using q1,show(e==2)=false from by simpa using q2,show(e==4)=false from by simpa using q4,show(e==7)=false from by simpa using q7]at J
 ·obtain⟨z,E,I,u⟩:=h;have a6:m<12:=(gA g).1;have T:w'.heap[b4]?=some (.cells s.cells 119):=(E.block b4 (gA h4).1).trans h4;have G:w.heap.size<=w'.heap.size:=E.size;have l:∀{m:Nat} {o:Oper} {e:Nat} (v:Value),(m,e,v)∈Bd s b4 i->o.dst=some e->(∀y,Region.wanted o y=true)->(∀c,o.op≠ .defer c)->(m≠10/\m≠11)->e≠9->(gT Tryz.f120 1)[m]?=some o->(execOp a.eval o).run (jx ql Tryz.prog) w'= .ok (.value v) w'->
   (∀a' C,ff (G5 b4 b7 i d) (Bd s b4 i) 33 (f.setIfInBounds m true) a'/\Below w.heap.size w C/\Al w (xM s i) 9 (f.setIfInBounds m true) a' C/\((f.setIfInBounds m true)[11]?=some true->∀n,n<11->(f.setIfInBounds m true)[n]?=some true)->Rn (jx ql Tryz.prog) Goal ((base 120).atR a' (.inRegion (gT Tryz.f120 1) L::k)) cs C)->
   Rn (jx ql Tryz.prog) Goal ((base 120).atR a (.inRegion (gT Tryz.f120 1) (m::L)::k)) cs w':=λ{m o e} v S B A a0 Q a2 g V r=>by
   refine Rn.ran g (A _) a0 V ?_;rw[B];exact r _ _ ⟨HI z S,E,I.step Q a2 (bR),lQ Q.2 u⟩
  rcases(by omega:m=0\/m=1\/m=2\/m=3\/m=4\/m=5\/m=6\/m=7\/m=8\/m=9\/m=10\/m=11)with rfl|rfl|rfl|rfl|rfl|rfl|rfl|rfl|rfl|rfl|rfl|rfl
  ·obtain⟨B,q,A⟩:=aN (d:=some 11) (p:= .fieldAddr 119 (.tmp 4) 0) g (by kernel_rfl);refine l (m:=0) _ (mG (i:=0) rfl) B A (by rw[q];simp) (by decide) (by decide) g ?_ r;exact(qG q (ce (z.fixed _ (mG (i:=2) rfl)))).1
  ·obtain⟨B,q,A⟩:=aN (d:=some 12) (p:= .fieldAddr 115 (.tmp 11) 2) g (by kernel_rfl);refine l (m:=1) _ (mG (i:=1) rfl) B A (by rw[q];simp) (by decide) (by decide) g ?_ r;exact(Jy q (ce (z.come _ (mG (i:=0) rfl) (dm (n:=1) (k:=0) (by kernel_rfl) g j)))).1
  ·obtain⟨B,q,A⟩:=aN (d:=some 13) (p:= .load 9 (.tmp 12)) g (by kernel_rfl);refine l (m:=2) _ (mG (i:=2) rfl) B A (by rw[q];simp) (by decide) (by decide) g ?_ r;exact(tM aQ q (ce (z.come _ (mG (i:=1) rfl) (dm (n:=2) (k:=1) (by kernel_rfl) g j))) (by rw[o9 T];rfl)).1
  ·obtain⟨B,q,A⟩:=aN (d:=some 14) (p:= .fieldAddr 119 (.tmp 4) 1) g (by kernel_rfl);refine l (m:=3) _ (mG (i:=3) rfl) B A (by rw[q];simp) (by decide) (by decide) g ?_ r;exact(Ky q (ce (z.fixed _ (mG (i:=2) rfl)))).1
  ·obtain⟨B,q,A⟩:=aN (d:=some 15) (p:= .load 3 (.tmp 14)) g (by kernel_rfl);refine l (m:=4) _ (mG (i:=4) rfl) B A (by rw[q];simp) (by decide) (by decide) g ?_ r;exact(tM aG q (ce (z.come _ (mG (i:=3) rfl) (dm (n:=4) (k:=3) (by kernel_rfl) g j))) (by rw[o9 T];show some (Value.i s.q)=_;rw[hq])).1
  ·obtain⟨B,q,A⟩:=aN (d:=some 16) (p:= .call {callee:= .value (.func 89),args:=#[.tmp 15],argTypes:=#[3]}) g (by kernel_rfl);have a1:=(ce (z.come _ (mG (i:=4) rfl) (dm (n:=5) (k:=4) (by kernel_rfl) g j)));have Z:=aO (w:=w') q (show(#[Operand.tmp 15]:Array Operand).map a.eval=#[.i s.q.toNat]from by simp[a1]) (cY (P:=(jx ql Tryz.prog)) Lf.func89 (by kernel_rfl) (by kernel_rfl) _);refine Rn.call g (A _) (by rw[q];simp) Z.1 (R:=λv C=>v= .string ⟨(cg s.q.toNat 4).toArray⟩/\Below w'.heap.size w' C) ?_ λv C X=> ?_
   ·refine(qy s.q.toNat (by omega) w').mono ?_;rintro e C ⟨rfl,hb⟩;exact⟨_,rfl,rfl,hb⟩
   ·obtain⟨rfl,F⟩:=X;rw[B];exact r _ _ ⟨HI z (mG (i:=5) rfl),kM E G F,I.step (by decide) (by decide) F,lQ (by decide) u⟩
  ·obtain⟨B,q,A⟩:=aN (d:=some 17) (p:= .binOp .add 9 (.tmp 13) (.tmp 16) 9) g (by kernel_rfl);refine l (m:=6) _ (mG (i:=6) rfl) B A (by rw[q];simp) (by decide) (by decide) g ?_ r;exact bA q (ce (z.come _ (mG (i:=2) rfl) (dm (n:=6) (k:=2) (by kernel_rfl) g j))) (ce (z.come _ (mG (i:=5) rfl) (dm (n:=6) (k:=5) (by kernel_rfl) g j))) (by rw[jP];have:=D.id;omega)
  ·obtain⟨B,q,A⟩:=aN (d:=some 18) (p:= .move (.tmp 1)) g (by kernel_rfl);refine l (m:=7) _ (mG (i:=7) rfl) B A (by rw[q];simp) (by decide) (by decide) g ?_ r;have V:=(bC (ev:=a.eval) (o:=o) (w:=w') (jx ql Tryz.prog) (.inl q)).1;rw[(ce (z.fixed _ (mG (i:=0) rfl)))]at V;exact V
  ·obtain⟨B,q,A⟩:=aN (d:=some 19) (p:= .call {callee:= .value (.func 92),args:=#[.tmp 18],argTypes:=#[3]}) g (by kernel_rfl);have a1:=(ce (z.come _ (mG (i:=7) rfl) (dm (n:=8) (k:=7) (by kernel_rfl) g j)));have Z:=aO (w:=w') q (show(#[Operand.tmp 18]:Array Operand).map a.eval=#[.i i]from by simp[a1]) (cY (P:=(jx ql Tryz.prog)) Lf.func92 (by kernel_rfl) (by kernel_rfl) _);refine Rn.call g (A _) (by rw[q];simp) Z.1 (R:=λv C=>v= .string ⟨(cg i 2).toArray⟩/\Below w'.heap.size w' C) ?_ λv C X=> ?_
   ·refine(mg i (by have:=D.i;omega) w').mono ?_;rintro e C ⟨rfl,hb⟩;exact⟨_,rfl,rfl,hb⟩
   ·obtain⟨rfl,F⟩:=X;rw[B];exact r _ _ ⟨HI z (mG (i:=8) rfl),kM E G F,I.step (by decide) (by decide) F,lQ (by decide) u⟩
  ·obtain⟨B,q,A⟩:=aN (d:=some 20) (p:= .binOp .add 9 (.tmp 17) (.tmp 19) 9) g (by kernel_rfl);refine l (m:=9) _ (mG (i:=9) rfl) B A (by rw[q];simp) (by decide) (by decide) g ?_ r;exact bA q (ce (z.come _ (mG (i:=6) rfl) (dm (n:=9) (k:=6) (by kernel_rfl) g j))) (ce (z.come _ (mG (i:=8) rfl) (dm (n:=9) (k:=8) (by kernel_rfl) g j))) (by rw[ByteArray.size_append,jP,jP];have:=D.id;omega)
  ·obtain⟨B,q,A⟩:=aN (d:=some 9) (p:= .alloc 9) g (by kernel_rfl);refine Rn.ran g (A _) (by rw[q];simp) (tW q).1 ?_;rw[B];refine r _ _ ⟨z.aside (λp H=> ?_) (λp H=> ?_),kM E G (ox w' _),λ_=>⟨w'.heap.size, ?_,G,_,y6 w' _,λU=> ?_⟩,lQ (by decide) u⟩
   ·simp only[G5,List.mem_cons,List.not_mem_nil,or_false]at H;rcases H with rfl|rfl|rfl|rfl<;>simp
   ·simp only[Bd,List.mem_cons,List.not_mem_nil,or_false]at H;rcases H with rfl|rfl|rfl|rfl|rfl|rfl|rfl|rfl|rfl|rfl<;>simp
   ·exact Array.getElem?_setIfInBounds_self_of_lt (Nat.lt_of_lt_of_le (by decide) z.size)
   ·rw[sN (by decide)]at U;exact absurd (u U 10 (by decide)) (by rw[hm];simp)
  ·obtain⟨B,q,A⟩:=aN (d:=none) (p:= .store 9 (.tmp 9) (.tmp 20)) g (by kernel_rfl);obtain⟨p,K,H,x,N,_⟩:=I (dm (n:=11) (k:=10) (by kernel_rfl) g j);have Y:=ey (ql:=ql) (w:=w') (b:=p) (k:=0) (v:= .string (xM s i)) (v0:= .string x) rfl rfl (by kernel_rfl) q (ce K) (ce (z.come _ (mG (i:=9) rfl) (dm (n:=11) (k:=9) (by kernel_rfl) g j))) (by rw[o9 N];rfl) (by unfold World.frozen?;rw[show w'.heap[(⟨p,0,none⟩:Addr).block]?=_ from N];simp);refine Rn.did g (A _) (by rw[q];simp) Y.1 ?_;rw[B];refine r _ _ ⟨z.pass (λp H=> ?_) _,E.trans (cU w' _ _ H),λ_=>⟨p,K,H,_,ku N,λ_=>rfl⟩,λ_ n hn=> ?_⟩
   ·simp only[Bd,List.mem_cons,List.not_mem_nil,or_false]at H;rcases H with rfl|rfl|rfl|rfl|rfl|rfl|rfl|rfl|rfl|rfl<;>simp
   ·rw[sN (by omega)];exact si g j (by kernel_rfl) n hn
 ·simp[Array.getElem?_replicate]at hl
 ·simp[Array.getElem?_replicate]at h
 ·simp[Array.getElem?_replicate]at h
end
end
section
variable{ql:Bool}
open Go Go.Conc Go.RowKit
theorem Kc:AD (gT Tryz.f120 4)=true:=by kernel_rfl
theorem Bv{ev:Operand->Value}{y z:Operand}{t u v:ByteArray}(a:o.op= .buildSlice 43 3 #[(0,x),(1,y),(2,z)])(d:ev x= .string t)(c:ev y= .string u)(b:ev z= .string v):
 (execOp ev o).run (jx ql Tryz.prog) w= .ok (.value (.slice (some ⟨w.heap.size,0,none⟩) 3 3)) (w.alloc (.cells #[.string t, .string u, .string v] 9)):=by
 have e:execOp ev o=(do pure (.value (←Instr.buildSlice 43 3 #[(0, .string t),(1, .string u),(2, .string v)]))):=by simp[execOp,a,d,c,b]
 have f:(do pure (.value (←Instr.buildSlice 43 3 #[(0, .string t),(1, .string u),(2, .string v)])):Sem Next).run (jx ql Tryz.prog) w= .ok (.value (.slice (some ⟨w.heap.size,0,none⟩) 3 3)) (w.alloc (.cells #[.string t, .string u, .string v] 9)):=by kernel_rfl
 rw[e,f]
section
variable{s:cA}{b7 b9 i j l:Nat}{x:List UInt8}{KS:List Int}{Goal:Goroutine->World->Prop}{k:List Item}{cs:List Frame}
theorem KI(a6:KS.length=64)(a9:s.id.size<65536)(hj:j<256)(hx:x.length=32)(hK:w.rangeAt 0 0 (tL KS))(h0:0<w.heap.size)(h7:w.heap[b7]?=some (.cells #[.string ⟨x.toArray⟩] 9))(h9:w.heap[b9]?=some (.cells #[.string (xM s i)] 9))
 (hF:∀p∈sR b7 b9 j,a.tmps[p.1]?=some p.2) (hz:33<=a.tmps.size) (a4:a.defers=[])
 (next:∀a' w1,Below w.heap.size w w1->Rn (jx ql Tryz.prog) Goal ((rb 120 l).atR a' k) cs (w1.setCell ⟨b7,0,none⟩ (.string ⟨(j8 KS (iI s i) j x).toArray⟩))):
 Rn (jx ql Tryz.prog) Goal ((rb 120 l).atR a (.code (.region 4 (gT Tryz.f120 4) true)::k)) cs w:=by
 refine Rn.draw λt=> ?_;have V:Region.schedule (((jx ql Tryz.prog)).follows .mixedOrders) (gT Tryz.f120 4) t=Region.linearise .any (gT Tryz.f120 4) t:=by
  unfold Region.schedule;rw[show Region.departs (gT Tryz.f120 4)=false from by kernel_rfl];simp
 rw[V];refine Rn.ordered (zy Kc) (λf a g=>ff (sR b7 b9 j) (nI s i j x) 33 f a/\Ki w b7 (.string ⟨(j8 KS (iI s i) j x).toArray⟩) f g/\A4 #[.string (xM s i), .string ⟨(cg j 1).toArray⟩, .string ⟨x.toArray⟩] 9 f a g/\A5 (.string ⟨(j8 KS (iI s i) j x).toArray⟩) f a/\(f[6]?=some true->∀n,n<6->f[n]?=some true))
  (λf a g Z h=> ?_) (λf a g m o S a0 q hm z h C=> ?_) t a _ ⟨⟨a4,hz,hF,λp A hl=> ?_⟩, .inl ⟨by rfl,gv w⟩,λh=> ?_,λh=> ?_,λh=> ?_⟩
 ·obtain⟨F,O,_⟩:=h;rcases O with⟨J,_⟩|⟨_,w1,a5,rfl⟩
  ·rw[Z 6 (by decide)]at J;cases J
  ·exact Rn.p rfl (next a w1 a5)
 ·obtain⟨F,O,N,M,u⟩:=h;have X:m<7:=(gA q).1;have J:m<7->f[6]?=some false:=λ_=>by
   rcases O with⟨J,_⟩|⟨J,_⟩
   ·exact J
   ·exfalso;by_cases e:m=6
    ·subst e;rw[hm]at J;cases J
    ·have:=u J m (by omega);rw[hm]at this;cases this
  have D:Below w.heap.size w g:=by
   rcases O with⟨_,Y⟩|⟨h,_⟩
   ·exact Y
   ·rw[J X]at h;cases h
  have Q:g.heap[b7]?=some (.cells #[.string ⟨x.toArray⟩] 9):=(D.block b7 (gA h7).1).trans h7;have a7:g.heap[b9]?=some (.cells #[.string (xM s i)] 9):=(D.block b9 (gA h9).1).trans h9;have K:w.heap.size<=g.heap.size:=D.size;have G:∀{m:Nat} {o:Oper} {e:Nat} (v:Value),(m,e,v)∈nI s i j x->o.dst=some e->(∀y,Region.wanted o y=true)->(∀c,o.op≠ .defer c)->(m≠4/\m≠5/\m≠6)->(e≠30/\e≠31)->(gT Tryz.f120 4)[m]?=some o->(execOp a.eval o).run (jx ql Tryz.prog) g= .ok (.value v) g->
   (∀a' r,ff (sR b7 b9 j) (nI s i j x) 33 (f.setIfInBounds m true) a'/\Ki w b7 (.string ⟨(j8 KS (iI s i) j x).toArray⟩) (f.setIfInBounds m true) r/\A4 #[.string (xM s i), .string ⟨(cg j 1).toArray⟩, .string ⟨x.toArray⟩] 9 (f.setIfInBounds m true) a' r/\A5 (.string ⟨(j8 KS (iI s i) j x).toArray⟩) (f.setIfInBounds m true) a'/\((f.setIfInBounds m true)[6]?=some true->∀n,n<6->(f.setIfInBounds m true)[n]?=some true)->
    Rn (jx ql Tryz.prog) Goal ((rb 120 l).atR a' (.inRegion (gT Tryz.f120 4) S::k)) cs r)->
   Rn (jx ql Tryz.prog) Goal ((rb 120 l).atR a (.inRegion (gT Tryz.f120 4) (m::S)::k)) cs g:=λ{m o e} v W I H a3 U he q hy C=>by
   refine Rn.ran q (H _) a3 hy ?_;rw[I];exact C _ _ ⟨GT F W, .inl ⟨by rw[sN U.2.2];exact J X,D⟩,N.step U.1 he.1 (bR),M.step U.2.1 he.2,lQ U.2.2 u⟩
  rcases(by omega:m=0\/m=1\/m=2\/m=3\/m=4\/m=5\/m=6)with rfl|rfl|rfl|rfl|rfl|rfl|rfl
  ·obtain⟨I,B,H⟩:=aN (d:=some 26) (p:= .load 9 (.tmp 9)) q (by kernel_rfl);refine G (m:=0) _ (mG (i:=0) rfl) I H (by rw[B];simp) ⟨by decide,by decide,by decide⟩ ⟨by decide,by decide⟩ q ?_ C;exact(tM aQ B (ce (F.fixed _ (mG (i:=1) rfl))) (by rw[o9 a7];rfl)).1
  ·obtain⟨I,B,H⟩:=aN (d:=some 27) (p:= .move (.tmp 10)) q (by kernel_rfl);refine G (m:=1) _ (mG (i:=1) rfl) I H (by rw[B];simp) ⟨by decide,by decide,by decide⟩ ⟨by decide,by decide⟩ q ?_ C;have hy:=(bC (ev:=a.eval) (o:=o) (w:=g) (jx ql Tryz.prog) (.inl B)).1;rw[(ce (F.fixed _ (mG (i:=2) rfl)))]at hy;exact hy
  ·obtain⟨I,B,H⟩:=aN (d:=some 28) (p:= .call {callee:= .value (.func 151),args:=#[.tmp 27],argTypes:=#[3]}) q (by kernel_rfl);have a1:=(ce (F.come _ (mG (i:=1) rfl) (dm (n:=2) (k:=1) (by kernel_rfl) q z)));have hr:=aO (w:=g) B (show(#[Operand.tmp 27]:Array Operand).map a.eval=#[.i j]from by simp[a1]) (cY (P:=(jx ql Tryz.prog)) Lf.func151 (by kernel_rfl) (by kernel_rfl) _);refine Rn.call q (H _) (by rw[B];simp) hr.1 (R:=λv r=>v= .string ⟨(cg j 1).toArray⟩/\Below g.heap.size g r) ?_ λv r hv=> ?_
   ·refine(Hh j (by omega) g).mono ?_;rintro e r ⟨rfl,Y⟩;exact⟨_,rfl,rfl,Y⟩
   ·obtain⟨rfl,E⟩:=hv;rw[I];exact C _ _ ⟨GT F (mG (i:=2) rfl), .inl ⟨by rw[sN (by decide)];exact J (by decide),kM D K E⟩,N.step (by decide) (by decide) E,M.step (by decide) (by decide),lQ (by decide) u⟩
  ·obtain⟨I,B,H⟩:=aN (d:=some 29) (p:= .load 9 (.tmp 7)) q (by kernel_rfl);refine G (m:=3) _ (mG (i:=3) rfl) I H (by rw[B];simp) ⟨by decide,by decide,by decide⟩ ⟨by decide,by decide⟩ q ?_ C;exact(tM aQ B (ce (F.fixed _ (mG (i:=0) rfl))) (by rw[o9 Q];rfl)).1
  ·obtain⟨I,B,H⟩:=aN (d:=some 30) (p:= .buildSlice 43 3 #[(0, .tmp 26),(1, .tmp 28),(2, .tmp 29)]) q (by kernel_rfl);refine Rn.ran q (H _) (by rw[B];simp) (Bv B (ce (F.come _ (mG (i:=0) rfl) (dm (n:=4) (k:=0) (by kernel_rfl) q z))) (ce (F.come _ (mG (i:=2) rfl) (dm (n:=4) (k:=2) (by kernel_rfl) q z))) (ce (F.come _ (mG (i:=3) rfl) (dm (n:=4) (k:=3) (by kernel_rfl) q z)))) ?_;rw[I];refine C _ _ ⟨F.aside (λp A=> ?_) (λp A=> ?_), .inl ⟨by rw[sN (by decide)];exact J (by decide),kM D K (ox g _)⟩,λ_=>⟨g.heap.size, ?_,y6 g _⟩,M.step (by decide) (by decide),lQ (by decide) u⟩
   ·simp only[sR,List.mem_cons,List.not_mem_nil,or_false]at A;rcases A with rfl|rfl|rfl<;>simp
   ·simp only[nI,List.mem_cons,List.not_mem_nil,or_false]at A;rcases A with rfl|rfl|rfl|rfl<;>simp
   ·exact Array.getElem?_setIfInBounds_self_of_lt (Nat.lt_of_lt_of_le (by decide) F.size)
  ·obtain⟨I,B,H⟩:=aN (d:=some 31) (p:= .call {callee:= .value (.func 91),args:=#[.tmp 30],argTypes:=#[43]}) q (by kernel_rfl);obtain⟨p,L,A⟩:=N (dm (n:=5) (k:=4) (by kernel_rfl) q z);have a1:=ce L;have hr:=aO (w:=g) B (show(#[Operand.tmp 30]:Array Operand).map a.eval=#[.slice (some ⟨p,0,none⟩) 3 3]from by simp[a1]) (cY (P:=(jx ql Tryz.prog)) Lf.func91 (by kernel_rfl) (by kernel_rfl) _);refine Rn.call q (H _) (by rw[B];simp) hr.1 (R:=λv r=>v= .string ⟨(j8 KS (iI s i) j x).toArray⟩/\Below g.heap.size g r) ?_ λv r hv=> ?_
   ·have T:dq [xM s i,⟨(cg j 1).toArray⟩,⟨x.toArray⟩] 3=iI s i++cg j 1++x:=(by simp[dq,Eo]);have a8:(iI s i++cg j 1++x).length<=65600:=by
     have:s.id.data.toList.length=s.id.size:=(by simp);simp[iI,bZ,hx];omega
    refine(DD KS [xM s i,⟨(cg j 1).toArray⟩,⟨x.toArray⟩] 3 g p (gA A).1 (λk hk=> ?_) (aM D h0 hK) a6 (by rw[show[xM s i,⟨(cg j 1).toArray⟩,(⟨x.toArray⟩:ByteArray)].length=3 from rfl,T];omega) (by simp)).mono ?_
    ·rw[o9 A];have h3:k=0\/k=1\/k=2:=(by simp at hk;omega);rcases h3 with rfl|rfl|rfl<;>rfl
    ·rintro e r ⟨rfl,Y⟩;refine⟨_,rfl, ?_,Y⟩;rw[show[xM s i,⟨(cg j 1).toArray⟩,(⟨x.toArray⟩:ByteArray)].length=3 from rfl,T];rfl
   ·obtain⟨rfl,E⟩:=hv;rw[I];refine C _ _ ⟨F.aside (λp A=> ?_) (λp A=> ?_), .inl ⟨by rw[sN (by decide)];exact J (by decide),kM D K E⟩,N.step (by decide) (by decide) E,λ_=> ?_,lQ (by decide) u⟩
    ·simp only[sR,List.mem_cons,List.not_mem_nil,or_false]at A;rcases A with rfl|rfl|rfl<;>simp
    ·simp only[nI,List.mem_cons,List.not_mem_nil,or_false]at A;rcases A with rfl|rfl|rfl|rfl<;>simp
    ·exact Array.getElem?_setIfInBounds_self_of_lt (Nat.lt_of_lt_of_le (by decide) F.size)
  ·obtain⟨I,B,H⟩:=aN (d:=none) (p:= .store 9 (.tmp 7) (.tmp 31)) q (by kernel_rfl);have a2:=ey (ql:=ql) (w:=g) (b:=b7) (k:=0) (v:= .string ⟨(j8 KS (iI s i) j x).toArray⟩) (v0:= .string ⟨x.toArray⟩) rfl rfl (by kernel_rfl) B (ce (F.fixed _ (mG (i:=0) rfl))) (ce (M (dm (n:=6) (k:=5) (by kernel_rfl) q z))) (by rw[o9 Q];rfl) (by unfold World.frozen?;rw[show g.heap[(⟨b7,0,none⟩:Addr).block]?=_ from Q];simp);refine Rn.did q (H _) (by rw[B];simp) a2.1 ?_;rw[I];refine C _ _ ⟨F.pass (λp A=> ?_) _, .inr ⟨Array.getElem?_setIfInBounds_self_of_lt (by rw[a0];decide),g,D,rfl⟩,λh4=> ?_,λh5=> ?_,λ_ n U=> ?_⟩
   ·simp only[nI,List.mem_cons,List.not_mem_nil,or_false]at A;rcases A with rfl|rfl|rfl|rfl<;>simp
   ·rw[sN (by decide)]at h4;obtain⟨p,L,A⟩:=N h4;refine⟨p,L,(cd g _ (λe=> ?_)).trans A⟩;have e:p=b7:=e;subst e;rw[Q]at A;cases A
   ·rw[sN (by decide)]at h5;exact M h5
   ·rw[sN (by omega)];exact si q z (by kernel_rfl) n U
 ·simp[Array.getElem?_replicate]at hl
 ·simp[Array.getElem?_replicate]at h
 ·simp[Array.getElem?_replicate]at h
 ·simp[Array.getElem?_replicate]at h
end
end
section
variable{ql:Bool}
open Go Go.Conc Go.RowKit
theorem GH:Tryz.f173.body=some (.seq (.region 0 (gT Tryz.f173 0) false) (.block 0 (.loop (kQ Tryz.f173)))):=by kernel_rfl
section
variable{s:cA}{i b7 b9 k2 l ld n:Nat}{KS:List Int}{w0:World}{x:List UInt8}{T:Array Value}{Goal:Goroutine->World->Prop}{cf:Frame}{cs:List Frame}
theorem Ft(hKl:KS.length=64)(hid:s.id.size<65536)(hK:w0.rangeAt 0 0 (tL KS))(h0:0<w0.heap.size)(hT:aJ [(7, .pt b7),(9, .pt b9)] 33 [] ⟨T,[]⟩)(hf:uF b7 b9 k2 l ld w0)(hj:j<256)(hx:x.length=32)
 (hC:Ch s i b7 b9 k2 l ld (zB Tryz.f120 120 T ld) 9 115 w0 .ready x w)
 (next:∀w',Ch s i b7 b9 k2 l ld (zB Tryz.f120 120 T ld) 9 115 w0 .ready (j8 KS (iI s i) j x) w'->Rn (jx ql Tryz.prog) Goal (cf.finish (.bool true)) cs w'):
 Rn (jx ql Tryz.prog) Goal (Frame.round l 120 (((#[25]:Array Tmp).zip #[.i j]).foldl (λtmps (t,a)=>tmps.setIfInBounds t a) T) (.region 3 (gT Tryz.f120 3) false) (.block 1 (.region 4 (gT Tryz.f120 4) true)) .normal) (cf::cs) w:=by
 have hF:=hT.put (d:=25) (by decide) (.i j);have ez:((#[25]:Array Tmp).zip #[.i j]).foldl (λ(tmps:Array Value) (x:Tmp×Value)=>match x with|(t,a)=>tmps.setIfInBounds t a) T=T.setIfInBounds 25 (.i j):=by simp
 rw[ez];show Rn _ Goal ((rb 120 l).atR (Act.put ⟨T,[]⟩ (some 25) (.i j)) [.code (.region 3 (gT Tryz.f120 3) false), .beginRound, .code (.block 1 (.region 4 (gT Tryz.f120 4) true))]) (cf::cs) w;revert hF;generalize Act.put ⟨T,[]⟩ (some 25) (.i j)=a;intro hF;have m0:=λo (ho:o.op= .assign (.tmp 25))=>(bC (ev:=a.eval) (o:=o) (w:=w) (jx ql Tryz.prog) (.inr ho)).1;rw[hF.G 25]at m0;refine Rn.r (L:=[0]) rfl (Rn.op hF 10 (.assign (.tmp 25)) (by decide) (by kernel_rfl) (by simp) m0 λa hF=> ?_);refine Rn.p rfl (Rn.rounds (r:=zB Tryz.f120 120 T ld .ready) rfl hC.loop rfl ?_);have hC1:=hC.turn hf .busy;have hs1:=hC1.old.size;refine Rn.p rfl (KI (b9:=b9) (s:=s) (i:=i) (x:=x) hKl hid hj hx (aM hC1.old h0 hK) (Nat.lt_of_lt_of_le h0 hs1) hC1.seven hC1.nine (λp hp=> ?_) hF.size hF.defers λa' w1 hb1=> ?_)
 ·simp only[sR,List.mem_cons,List.not_mem_nil,or_false]at hp;rcases hp with rfl|rfl|rfl
  ·exact hF.slot 7 _ rfl
  ·exact hF.slot 9 _ rfl
  ·exact hF.slot 10 _ rfl
 have hC2:=(hC1.below hb1).put hf (j8 KS (iI s i) j x);exact Rn.p rfl (Rn.through rfl rfl hC2.loop (next _ (hC2.turn hf .ready)))
theorem D4(hKl:KS.length=64)(hid:s.id.size<65536)(hwd:s.width=n)(hn:n<=8)(ht:bQ n<=255)(hK:w0.rangeAt 0 0 (tL KS))(h0:0<w0.heap.size)(hT:aJ [(7, .pt b7),(9, .pt b9)] 33 [] ⟨T,[]⟩)(hf:uF b7 b9 k2 l ld w0){fin:List UInt8}
 (hend:∀w',Ch s i b7 b9 k2 l ld (zB Tryz.f120 120 T ld) 9 115 w0 .ready fin w'->Rn (jx ql Tryz.prog) Goal (cf.finish (.tuple #[])) cs w')
 (j:Nat) (x:List UInt8) (a:Act) (w:World) (hj:j<257) (hx:x.length=32) (hfin:i9 KS (iI s i) (bQ n- j) j x=fin) (hF:aJ [(0, .func (.yield l) #[] #[]),(2, .pt k2),(4, .i j)] 16 [] a)
 (hC:Ch s i b7 b9 k2 l ld (zB Tryz.f120 120 T ld) 9 115 w0 .ready x w)
 (again:j<bQ n->∀a w,aJ [(0, .func (.yield l) #[] #[]),(2, .pt k2),(4, .i (j+1:Nat))] 16 [] a->Ch s i b7 b9 k2 l ld (zB Tryz.f120 120 T ld) 9 115 w0 .ready (j8 KS (iI s i) j x) w->
   Rn (jx ql Tryz.prog) Goal ((base 173).atR a [.code (kQ Tryz.f173), .inLoop (kQ Tryz.f173), .inBlock 0]) (cf::cs) w):
 Rn (jx ql Tryz.prog) Goal ((base 173).atR a [.code (kQ Tryz.f173), .inLoop (kQ Tryz.f173), .inBlock 0]) (cf::cs) w:=by
 refine Rn.p rfl (Rn.p rfl (Rn.r (L:=[0,1,2,3]) rfl ?_));have m1:=λo (ho:o.op= .move (.tmp 4))=>(bC (ev:=a.eval) (o:=o) (w:=w) (jx ql Tryz.prog) (.inl ho)).1;rw[hF.G 4]at m1;refine Rn.op hF 6 (.move (.tmp 4)) (by decide) (by kernel_rfl) (by simp) m1 λa hF=> ?_;refine Rn.op hF 7 (.load 115 (.tmp 2)) (by decide) (by kernel_rfl) (by simp) (λo ho=>gg (s:=s) ho (hF.G 2) hC.key λ_ _=>rfl) λa hF=> ?_;cases ho:(gT Tryz.f173 1)[2]? with
 |none=>exact absurd ho (by simp;decide)
 |some o=>
 obtain⟨e1,e2,e3⟩:=aN (d:=some 8) (p:= .call {callee:= .value (.func 108),args:=#[.tmp 7],argTypes:=#[115]}) ho (by kernel_rfl);have hr:=aO (w:=w) e2 (show(#[Operand.tmp 7]:Array Operand).map a.eval=#[.agg s.key]from by simp[hF.G 7]) (cY (P:=(jx ql Tryz.prog)) Lf.func108 (by kernel_rfl) (by kernel_rfl) _);refine Rn.call ho (e3 _) (by rw[e2];simp) hr.1 (R:=λv w'=>v= .i (bQ n)/\Below w.heap.size w w') ((A1 s n hwd hn w).mono λe w' h=>⟨_,h.1,rfl,h.2⟩) λv w1 hv=> ?_;obtain⟨rfl,hb1⟩:=hv;rw[e1];have hC:=hC.below hb1;have hF:=hF.put (d:=8) (by decide) (.i (bQ n));revert hF;generalize a.put (some 8) (.i (bQ n))=a;intro hF;clear e1 e2 e3 ho hr hb1;refine Rn.op hF 9 (.binOp .lss 3 (.tmp 6) (.tmp 8) 3) (by decide) (by kernel_rfl) (by simp) (λo ho=>(cH ho (hF.G 6) (hF.G 8)).1) λa hF=> ?_;refine Rn.p rfl (Rn.cond (decide ((j:Int)<bQ n)) (hF.G 9) ?_);by_cases hlt:j<bQ n
 ·have e:decide ((j:Int)<bQ n)=true:=decide_eq_true (by omega);rw[e];refine Rn.p rfl (Rn.p rfl (Rn.p rfl (Rn.p rfl (Rn.r (L:=[0,1,2,3]) rfl ?_))));have m2:=λo (ho:o.op= .move (.tmp 0))=>(bC (ev:=a.eval) (o:=o) (w:=w1) (jx ql Tryz.prog) (.inl ho)).1;rw[hF.G 0]at m2;refine Rn.op hF 12 (.move (.tmp 0)) (by decide) (by kernel_rfl) (by simp) m2 λa hF=> ?_;have m3:=λo (ho:o.op= .move (.tmp 4))=>(bC (ev:=a.eval) (o:=o) (w:=w1) (jx ql Tryz.prog) (.inl ho)).1;rw[hF.G 4]at m3;refine Rn.op hF 13 (.move (.tmp 4)) (by decide) (by kernel_rfl) (by simp) m3 λa hF=> ?_;cases ho:(gT Tryz.f173 3)[2]? with
  |none=>exact absurd ho (by simp;decide)
  |some o=>
  obtain⟨e1,e2,e3⟩:=aN (d:=some 14) (p:= .call {callee:= .value (.tmp 12),args:=#[.tmp 13],argTypes:=#[3]}) ho (by kernel_rfl);refine Rn.yields (args:=#[.i j]) ho (e3 _) (by rw[e2];simp) hC.loop rfl (λw=>nb e2 (hF.G 12) (by simp[hF.G 13]) w) ?_;refine Ft hKl hid hK h0 hT hf (by omega) hx hC λw2 hC2=> ?_;rw[Frame.finish_atR,ho,Option.bind_some,e1];have hF:=hF.put (d:=14) (by decide) (.bool true);revert hF;generalize a.put (some 14) (.bool true)=a;intro hF;clear e1 e2 e3 ho;refine Rn.op hF 15 (.unOp .not 4 (.tmp 14)) (by decide) (by kernel_rfl) (by simp) (λo ho=>(lu ho (hF.G 14)).1) λa hF=> ?_;refine Rn.p rfl (Rn.cond false (hF.G 15) ?_);refine Rn.p rfl (Rn.p rfl (Rn.r (L:=[0,1,2]) rfl ?_));have m4:=λo (ho:o.op= .move (.tmp 4))=>(bC (ev:=a.eval) (o:=o) (w:=w2) (jx ql Tryz.prog) (.inl ho)).1;rw[hF.G 4]at m4;refine Rn.op hF 10 (.move (.tmp 4)) (by decide) (by kernel_rfl) (by simp) m4 λa hF=> ?_;refine Rn.op hF 11 (.binOp .add 3 (.tmp 10) (.const (.i 1)) 3) (by decide) (by kernel_rfl) (by simp) (λo ho=>(lv (m:=j) (n:=1) ho (hF.G 10) rfl (by omega)).1) λa hF=> ?_;have m5:=λo (ho:o.op= .assign (.tmp 11))=>(bC (ev:=a.eval) (o:=o) (w:=w2) (jx ql Tryz.prog) (.inr ho)).1;rw[hF.G 11]at m5;refine Rn.op hF 4 (.assign (.tmp 11)) (by decide) (by kernel_rfl) (by simp) m5 λa hF=> ?_;refine Rn.p rfl (Rn.p rfl (again hlt a w2 ⟨hF.defers,hF.size,λd v hd=> ?_⟩ hC2));have h3:d=0\/d=2\/d=4:=by
   by_cases h0:d=0
   ·exact .inl h0
   ·by_cases h2:d=2
    ·exact .inr (.inl h2)
    ·by_cases h4:d=4
     ·exact .inr (.inr h4)
     ·simp[List.lookup,show(d==0)=false from by simpa using h0,show(d==2)=false from by simpa using h2,show(d==4)=false from by simpa using h4]at hd
  rcases h3 with rfl|rfl|rfl
  ·exact hF.slot 0 v hd
  ·exact hF.slot 2 v hd
  ·refine(hF.slot 4 _ rfl).trans ?_;rw[←hd];simp[List.lookup]
 ·have e:decide ((j:Int)<bQ n)=false:=decide_eq_false (by omega);rw[e];rw[show bQ n- j=0 from by omega]at hfin;have hfin:x=fin:=hfin;subst hfin;exact Rn.p rfl (Rn.ends rfl (.inl rfl) (Rn.leave (.tuple #[]) rfl hF.defers Lf.func173 (results_none rfl _ _ w1) (events_results_none rfl _ _) (hend w1 hC)))
theorem I4(hKl:KS.length=64)(hid:s.id.size<65536)(hwd:s.width=n)(hn:n<=8)(hK:w0.rangeAt 0 0 (tL KS))(h0:0<w0.heap.size)(hT:aJ [(7, .pt b7),(9, .pt b9)] 33 [] ⟨T,[]⟩)(hf:uF b7 b9 k2 l ld w0){fin:List UInt8}
 (hend:∀w',Ch s i b7 b9 k2 l ld (zB Tryz.f120 120 T ld) 9 115 w0 .ready fin w'->Rn (jx ql Tryz.prog) Goal (cf.finish (.tuple #[])) cs w'):
 ∀(fuel j:Nat) (x:List UInt8) (a:Act) (w:World),bQ n- j<=fuel->j<257->x.length=32->i9 KS (iI s i) (bQ n- j) j x=fin->aJ [(0, .func (.yield l) #[] #[]),(2, .pt k2),(4, .i j)] 16 [] a->
  Ch s i b7 b9 k2 l ld (zB Tryz.f120 120 T ld) 9 115 w0 .ready x w->
  Rn (jx ql Tryz.prog) Goal ((base 173).atR a [.code (kQ Tryz.f173), .inLoop (kQ Tryz.f173), .inBlock 0]) (cf::cs) w:=by
 have ht:bQ n<=255:=by
  unfold bQ;have h8:n=0\/n=1\/n=2\/n=3\/n=4\/n=5\/n=6\/n=7\/n=8:=by omega
  rcases h8 with rfl|rfl|rfl|rfl|rfl|rfl|rfl|rfl|rfl<;>decide
 intro fuel;induction fuel with
 |zero=>exact λj x a w hfu hj hx hfin hF hC=>D4 hKl hid hwd hn ht hK h0 hT hf hend j x a w hj hx hfin hF hC λh=>by omega
 |succ fuel ih=>exact λj x a w hfu hj hx hfin hF hC=>D4 hKl hid hwd hn ht hK h0 hT hf hend j x a w hj hx hfin hF hC λh a w hF hC=>ih (j+1) _ a w (by omega) (by omega) (nL _ _ _ _) (by rw[←zA _ _ _ _ _ h];exact hfin) hF hC
end
end
section
variable{ql:Bool}
open Go Go.Conc Go.RowKit
theorem AB(KS:List Int)(s:cA)(i:Nat)(d:Int)(link:ByteArray)(m:zV s i d link)(w:World)(hK:w.rangeAt 0 0 (tL KS))(K:KS.length=64)(h0:0<w.heap.size):
 Calls (jx ql Tryz.prog) 120 #[.agg s.cells, .i i, .i d, .string link] w λe w'=>e= .returned (.string (j4 KS s i d link))/\Below w.heap.size w w':=by
 obtain⟨n,hn⟩:∃n:Nat,s.width=n:=⟨s.width.toNat,(Int.toNat_of_nonneg m.width.1).symm⟩;obtain⟨j,hj⟩:∃j:Nat,d=j:=⟨d.toNat,(Int.toNat_of_nonneg m.d.1).symm⟩;subst hj;have I:n<=8:=by have:=m.width.2;omega
 have J:j<256:=by have:=m.d.2;omega
 refine aX (t:=8) Lf.func120 rfl λcs=> ?_;rw[show(#[.agg s.cells, .i i, .i j, .string link]:Array Value)=[.agg s.cells, .i i, .i j, .string link].toArray from rfl,bE (N:=33) _ Lf.func120 Iw rfl];have b:=aR [.agg s.cells, .i i, .i j, .string link] 33 (by simp);revert b;generalize (Act.mk (([.agg s.cells, .i i, .i j, .string link]:List Value).toArray++Array.replicate (33-([.agg s.cells, .i i, .i j, .string link]:List Value).toArray.size) undef) [])=a;intro b;refine Rn.p rfl (Rn.r (L:=[0,1,2]) rfl ?_);have b1:=λ(o:Oper) (q:o.op= .box 119 (.tmp 0))=>(lO (ev:=a.eval) (w:=w) (jx ql Tryz.prog) q).1;rw[b.G 0]at b1;refine Rn.op b 4 (.box 119 (.tmp 0)) (by decide) (by kernel_rfl) (by simp) b1 λa b=> ?_;have b2:=λ(o:Oper) (q:o.op= .box 9 (.tmp 3))=>(lO (ev:=a.eval) (w:=w.alloc (.cells (Value.agg s.cells).cells 119)) (jx ql Tryz.prog) q).1;rw[b.G 3]at b2;refine Rn.op b 7 (.box 9 (.tmp 3)) (by decide) (by kernel_rfl) (by simp) b2 λa b=> ?_;have G:((w.alloc (.cells (Value.agg s.cells).cells 119)).alloc (.cells (Value.string link).cells 9)).heap[w.heap.size]?=some (.cells s.cells 119):=(fm _ _ (by rw[mE];omega)).trans (y6 w _);have S:((w.alloc (.cells (Value.agg s.cells).cells 119)).alloc (.cells (Value.string link).cells 9)).heap[w.heap.size+1]?=some (.cells #[.string link] 9):=by
  have:=y6 (w.alloc (.cells (Value.agg s.cells).cells 119)) (.cells (Value.string link).cells 9);rw[mE]at this;exact this
 have O:Below w.heap.size w ((w.alloc (.cells (Value.agg s.cells).cells 119)).alloc (.cells (Value.string link).cells 9)):=kM (ox w _) (by rw[mE];omega) (ox _ _);have fs:((w.alloc (.cells (Value.agg s.cells).cells 119)).alloc (.cells (Value.string link).cells 9)).heap.size=w.heap.size+2:=by rw[mE,mE]
 rw[mE]at b;revert G S O fs;generalize (w.alloc (.cells (Value.agg s.cells).cells 119)).alloc (.cells (Value.string link).cells 9)=w1;intro G S O fs;refine Rn.op b 8 (.assign (.const (.string ⟨#[]⟩))) (by decide) (by kernel_rfl) (by simp) (λo q=>(bC (ev:=a.eval) (w:=w1) (jx ql Tryz.prog) (.inr q)).1) λa b=> ?_;refine Rn.p rfl (Rn.p rfl (KJ (s:=s) (i:=i) (d:=j) (b4:=w.heap.size) (b7:=w.heap.size+1) (link:=link) m G (λp hp=> ?_) b.size b.defers λa f b9 b y a1 Q=> ?_))
 ·simp only[G5,List.mem_cons,List.not_mem_nil,or_false]at hp;rcases hp with rfl|rfl|rfl|rfl
  ·exact b.slot 1 _ rfl
  ·exact b.slot 2 _ rfl
  ·exact b.slot 4 _ rfl
  ·exact b.slot 7 _ rfl
 have g4:=(y.block _ (by omega)).trans G;have g7:=(y.block _ (by omega)).trans S;have gb:=kM O (by omega) y;have gs:=y.size;refine Rn.p rfl (Rn.p rfl (Rn.r (L:=[0,1,2,3]) rfl ?_));refine Rn.op b 21 (.fieldAddr 119 (.tmp 4) 0) (by decide) (by kernel_rfl) (by simp) (λo q=>(qG q (b.G 4)).1) λa b=> ?_;refine Rn.op b 22 (.load 115 (.tmp 21)) (by decide) (by kernel_rfl) (by simp) (λo q=>gg (s:=s) q (b.G 21) g4 (λk hk=> ?_)) λa b=> ?_
 ·have h8:k=0\/k=1\/k=2\/k=3\/k=4\/k=5\/k=6\/k=7:=by omega
  rcases h8 with rfl|rfl|rfl|rfl|rfl|rfl|rfl|rfl<;>rfl
 have m1:=λo (q:o.op= .move (.tmp 2))=>(bC (ev:=a.eval) (o:=o) (w:=f) (jx ql Tryz.prog) (.inl q)).1;rw[b.G 2]at m1;refine Rn.op b 23 (.move (.tmp 2)) (by decide) (by kernel_rfl) (by simp) m1 λa b=> ?_;cases q:(gT Tryz.f120 2)[3]? with
 |none=>exact absurd q (by simp;decide)
 |some o=>
 obtain⟨e1,U,e3⟩:=aN (d:=some 24) (p:= .call {callee:= .value (.func 150),args:=#[.tmp 22, .tmp 23],argTypes:=#[115,3]}) q (by kernel_rfl);have hr:=aO (w:=f) U (show(#[Operand.tmp 22, .tmp 23]:Array Operand).map a.eval=#[.agg s.key, .i j]from by simp[b.G 22,b.G 23]) (cY (P:=(jx ql Tryz.prog)) Lf.func150 (by kernel_rfl) (by kernel_rfl) _);refine Rn.call q (e3 _) (by rw[U];simp) hr.1 (R:=λv w'=>v= .func (.func 173) #[] #[.pointer (some ⟨f.heap.size+1,0,none⟩), .pointer (some ⟨f.heap.size,0,none⟩)]/\w'=(f.alloc (.cells s.key 115)).alloc (.cells #[.i j] 3)) ((Bj s.key j f).mono λe w' h=>⟨_,h.1,rfl,h.2⟩) λv c hv=> ?_;obtain⟨rfl,r⟩:=hv;rw[e1];have b:=b.put (d:=24) (by decide) (.func (.func 173) #[] #[.pointer (some ⟨f.heap.size+1,0,none⟩), .pointer (some ⟨f.heap.size,0,none⟩)]);revert b;generalize a.put (some 24) (.func (.func 173) #[] #[.pointer (some ⟨f.heap.size+1,0,none⟩), .pointer (some ⟨f.heap.size,0,none⟩)])=a;intro b;clear e1 U e3 q hr;have H:Below f.heap.size f c:=by rw[r];exact kM (ox f _) (by rw[mE];omega) (ox _ _)
 have ks:c.heap.size=f.heap.size+2:=by rw[r,mE,mE]
 have kk:c.heap[f.heap.size]?=some (.cells s.key 115):=by rw[r];exact(fm _ _ (by rw[mE];omega)).trans (y6 f _)
 have kd:c.heap[f.heap.size+1]?=some (.cells #[.i j] 3):=by
  rw[r];have:=y6 (f.alloc (.cells s.key 115)) (.cells #[.i j] 3);rw[mE]at this;exact this
 have k7:=(H.block _ (by omega)).trans g7;have k9:=(H.block _ (gA Q).1).trans Q;have a0:=(gA Q).1;clear r;refine Rn.p rfl (Rn.p rfl ?_);refine Rn.rangeAs (zB Tryz.f120 120 a.tmps c.heap.size .ready) (args:=[.func (.yield (c.heap.size+1)) #[] #[], .pointer (some ⟨f.heap.size+1,0,none⟩), .pointer (some ⟨f.heap.size,0,none⟩)].toArray) rfl rfl Lf.func173 (by kernel_rfl) (by kernel_rfl) (b.G 24) (by simp) ?_;have u:Below w.heap.size w (cz c (zB Tryz.f120 120 a.tmps c.heap.size .ready)):=kM (kM gb (by omega) H) (by omega) (ik c _);have M:Ch s i (w.heap.size+1) b9 f.heap.size (c.heap.size+1) c.heap.size (zB Tryz.f120 120 a.tmps c.heap.size) 9 115 w .ready link.data.toList (cz c (zB Tryz.f120 120 a.tmps c.heap.size .ready)):=
  ⟨u,(bB c _ (by omega)).trans (by rw[k7]),(bB c _ (by omega)).trans k9,(bB c _ (by omega)).trans kk,fI c _,fJ c _⟩
 have B:uF (w.heap.size+1) b9 f.heap.size (c.heap.size+1) c.heap.size w:=⟨⟨by omega,by omega,by omega⟩,⟨by omega,by omega,by omega,by omega⟩,⟨by omega,by omega,by omega⟩⟩;have C:(cz c (zB Tryz.f120 120 a.tmps c.heap.size .ready)).heap[f.heap.size+1]?=some (.cells #[.i j] 3):=(bB c _ (by omega)).trans kd;revert M C u;generalize cz c (zB Tryz.f120 120 a.tmps c.heap.size .ready)=W;intro u M C;rw[bE (N:=16) _ Lf.func173 GH rfl];have z:=aR [.func (.yield (c.heap.size+1)) #[] #[], .pointer (some ⟨f.heap.size+1,0,none⟩), .pointer (some ⟨f.heap.size,0,none⟩)] 16 (by simp);revert z;generalize (Act.mk (([.func (.yield (c.heap.size+1)) #[] #[], .pointer (some ⟨f.heap.size+1,0,none⟩), .pointer (some ⟨f.heap.size,0,none⟩)]:List Value).toArray++Array.replicate (16-([.func (.yield (c.heap.size+1)) #[] #[], .pointer (some ⟨f.heap.size+1,0,none⟩), .pointer (some ⟨f.heap.size,0,none⟩)]:List Value).toArray.size) undef) [])=g;intro z;refine Rn.p rfl (Rn.r (L:=[0,1]) rfl ?_);refine Rn.op z 5 (.load 3 (.tmp 1)) (by decide) (by kernel_rfl) (by simp) (λo q=>(tM (v:= .i j) aG q (z.G 1) (by rw[o9 C];rfl)).1) λg z=> ?_;have m2:=λo (q:o.op= .assign (.tmp 5))=>(bC (ev:=g.eval) (o:=o) (w:=W) (jx ql Tryz.prog) (.inr q)).1;rw[z.G 5]at m2;refine Rn.op z 4 (.assign (.tmp 5)) (by decide) (by kernel_rfl) (by simp) m2 λg z=> ?_;refine Rn.p rfl (Rn.p rfl (Rn.p rfl ?_));have E:link.data.toList.length=32:=by have:=m.link;simpa using this
 refine I4 (s:=s) (i:=i) (KS:=KS) (n:=n) (T:=a.tmps) (l:=c.heap.size+1) (ld:=c.heap.size) (k2:=f.heap.size) (b7:=w.heap.size+1) (b9:=b9) (w0:=w) K m.id hn I hK h0 ⟨rfl,b.size,λe v A=> ?_⟩ B (fin:=i9 KS (iI s i) (bQ n- j) j link.data.toList) (λV F=> ?_) (bQ n- j) j link.data.toList g W (Nat.le_refl _) (by omega) E rfl (z.sub λe v A=> ?_) M
 ·by_cases Y:e=7
  ·subst Y;exact b.slot 7 v A
  by_cases X:e=9
  ·subst X;exact b.slot 9 v A
  simp[List.lookup,show(e==7)=false from by simpa using Y,show(e==9)=false from by simpa using X]at A
 ·show Rn (jx ql Tryz.prog) _ ((base 120).atR ⟨a.tmps,{target:= .collected c.heap.size,args:=#[]}::a.defers⟩ (.endRangeFunc (c.heap.size+1)::_)) cs V;refine Rn.rangeOver F.loop rfl rfl ?_;have D:=F.turn B .exhausted;have x:aJ ((24, .func (.func 173) #[] #[.pointer (some ⟨f.heap.size+1,0,none⟩), .pointer (some ⟨f.heap.size,0,none⟩)])::(23, .i j)::(22, .agg s.key)::(21, .pt w.heap.size)::[(9, .pt b9),(1, .i i),(2, .i j),(4, .pt w.heap.size),(7, .pt (w.heap.size+1))]) 33 [{target:= .collected c.heap.size,args:=#[]}] ⟨a.tmps,{target:= .collected c.heap.size,args:=#[]}::a.defers⟩:=⟨by rw[b.defers],b.size,b.slot⟩;revert x;generalize (Act.mk a.tmps ({target:= .collected c.heap.size,args:=#[]}::a.defers))=a2;intro x;refine Rn.p rfl (Rn.p rfl (Rn.r (L:=[0,1]) rfl ?_));refine Rn.op x 32 (.load 9 (.tmp 7)) (by decide) (by kernel_rfl) (by simp) (λo q=>(tM (v:= .string ⟨(i9 KS (iI s i) (bQ n- j) j link.data.toList).toArray⟩) aQ q (x.G 7) ((o9 D.seven 0).trans rfl)).1) λa3 x=> ?_;have m3:=λo (q:o.op= .assign (.tmp 32))=>(bC (ev:=a3.eval) (o:=o) (w:=ca V (c.heap.size+1) (zB Tryz.f120 120 a.tmps c.heap.size .exhausted)) (jx ql Tryz.prog) (.inr q)).1;rw[x.G 32]at m3;refine Rn.op x 8 (.assign (.tmp 32)) (by decide) (by kernel_rfl) (by simp) m3 λa4 x=> ?_;refine Rn.p rfl (Rn.ends rfl (.inr ⟨_,rfl⟩) (Rn.take (ds:=[]) x.defers D.list (Rn.now ⟨⟨a4.tmps,[]⟩,_, .string ⟨(i9 KS (iI s i) (bQ n- j) j link.data.toList).toArray⟩,rfl,rfl,x.slot 8 _ rfl, ?_,D.old.trans (l6 _ _ (by omega))⟩)));unfold j4;rw[hn,Int.toNat_natCast,Int.toNat_natCast]
 ·by_cases q0:e=0
  ·subst q0;exact A
  by_cases q2:e=2
  ·subst q2;exact A
  by_cases Z:e=4
  ·subst Z;exact A
  simp[List.lookup,show(e==0)=false from by simpa using q0,show(e==2)=false from by simpa using q2,show(e==4)=false from by simpa using Z]at A
end
end L1
namespace L1
open Go.Conc Go.RowKit
section
variable{w:World}{ev:Operand->Value}{o:Oper}{x:Operand}{v:Value}
def ET(P:Program)(ev:Operand->Value)(o:Oper)(w:World):Prop:=∃x w',(execOp ev o).run P w= .halt x w'/\((∃s,x= .stuck s)\/(∃v,x= .panic v)\/x= .unsupported .addressObserved)
theorem BW(a:o.op=ie n)(b:ev (.tmp n)=v):(∃s:ByteArray,v= .string s/\(execOp ev o).run lT w= .ok (.value (.i s.size)) w)\/ET lT ev o w:=by
 have c:lT.underlying 9=some .string:=by kernel_rfl
 cases v with
 |string s=>exact .inl ⟨s,rfl,by simp[execOp,a,ie,resolve,b,invoke,builtin,Builtin.len_,run_underlying c,goInt]⟩
 |_=>exact .inr ⟨_,w,by simp[execOp,a,ie,resolve,b,invoke,builtin,Builtin.len_,run_underlying c];rfl, .inl ⟨_,rfl⟩⟩
theorem BQ(a:o.op=fw n c)(b:ev (.tmp n)=v)(d:ev (.const (.i c))= .i c):(∃m:Int,v= .i m/\(execOp ev o).run lT w= .ok (.value (.bool (decide (m<c)))) w)\/ET lT ev o w:=by
 cases v with
 |int k m=>
  by_cases e:k= .i64
  ·subst e;exact .inl ⟨m,rfl,(cH a b d).1⟩
  ·exact .inr ⟨_,w,by simp[execOp,a,fw,b,d,eqGuard,binOp,e];rfl, .inl ⟨_,rfl⟩⟩
 |pointer p=>exact .inr ⟨.unsupported .addressObserved,w,by simp[execOp,a,fw,b,d,eqGuard,binOp], .inr (.inr rfl)⟩
 |_=>exact .inr ⟨_,w,by simp[execOp,a,fw,b,d,eqGuard,binOp];rfl, .inl ⟨_,rfl⟩⟩
end
theorem GE{cs:Array Value}(h:12<=cs.size):∃n m k j i g f e d c b a r,cs=(n::m::k::j::i::g::f::e::d::c::b::a::r:List Value).toArray:=by
 obtain⟨l⟩:=cs
 match l,h with
 |n::m::k::j::i::g::f::e::d::c::b::a::r,_=>exact⟨n,m,k,j,i,g,f,e,d,c,b,a,r,rfl⟩
section
variable{w:World}{ev:Operand->Value}{o:Oper}{x:Operand}{v:Value}
theorem zi(a:o.op= .field 119 x 4)(b:ev x=v):(∃cs:Array Value,v= .agg cs/\12<=cs.size/\∃u,(execOp ev o).run lT w= .ok (.value u) w)\/ET lT ev o w:=by
 have k:∃e,lT.underlying 119=some (.struct e)/\∃f,e[4]?=some f/\f.type=9/\f.offset=11:=⟨_,(aZ _).trans Tryz.underlying119,_,rfl,rfl,rfl⟩;obtain⟨e,c,f,d,g,i⟩:=k;have j:(isAgg 9).run lT w= .ok false w:=by kernel_rfl
 cases v with
 |agg cs=>
  by_cases h:12<=cs.size
  ·refine .inl ⟨cs,rfl,h,cs[11], ?_⟩;simp[execOp,a,b,Instr.field,run_underlying c,d,part,asAgg,g,i,j,Array.getElem?_eq_getElem (show 11<cs.size by omega)]
  ·refine .inr ⟨.stuck "part: no such cell",w, ?_, .inl ⟨_,rfl⟩⟩;simp[execOp,a,b,Instr.field,run_underlying c,d,part,asAgg,g,i,j,Array.getElem?_eq_none (show cs.size<=11 by omega)]
 |_=>exact .inr ⟨_,w,by simp[execOp,a,b,Instr.field,run_underlying c,d,asAgg];rfl, .inl ⟨_,rfl⟩⟩
end
section
variable{w:World}{ev:Operand->Value}{o:Oper}{x:Operand}{c0 c1 c2 c3 c4 c5 c6 c7 c8 c9 c10 c11:Value}
theorem L4(a:o.op= .field 119 x 0)(b:ev x= .agg #[c0,c1,c2,c3,c4,c5,c6,c7,c8,c9,c10,c11]):(execOp ev o).run lT w= .ok (.value (.agg #[c0,c1,c2,c3,c4,c5,c6,c7])) w:=by
 have e:execOp ev o=(do pure (.value (←Instr.field 119 (.agg #[c0,c1,c2,c3,c4,c5,c6,c7,c8,c9,c10,c11]) 0))):=by simp only[execOp,a,b]
 have c:(do pure (.value (←Instr.field 119 (.agg #[c0,c1,c2,c3,c4,c5,c6,c7,c8,c9,c10,c11]) 0)):Sem Next).run lT w= .ok (.value (.agg #[c0,c1,c2,c3,c4,c5,c6,c7])) w:=by kernel_rfl
 rw[e,c]
theorem L3(a:o.op= .field 119 x 1)(b:ev x= .agg #[c0,c1,c2,c3,c4,c5,c6,c7,c8,c9,c10,c11]):(execOp ev o).run lT w= .ok (.value c8) w:=by
 have e:execOp ev o=(do pure (.value (←Instr.field 119 (.agg #[c0,c1,c2,c3,c4,c5,c6,c7,c8,c9,c10,c11]) 1))):=by simp only[execOp,a,b]
 have c:(do pure (.value (←Instr.field 119 (.agg #[c0,c1,c2,c3,c4,c5,c6,c7,c8,c9,c10,c11]) 1)):Sem Next).run lT w= .ok (.value c8) w:=by kernel_rfl
 rw[e,c]
theorem L2(a:o.op= .field 119 x 2)(b:ev x= .agg #[c0,c1,c2,c3,c4,c5,c6,c7,c8,c9,c10,c11]):(execOp ev o).run lT w= .ok (.value c9) w:=by
 have e:execOp ev o=(do pure (.value (←Instr.field 119 (.agg #[c0,c1,c2,c3,c4,c5,c6,c7,c8,c9,c10,c11]) 2))):=by simp only[execOp,a,b]
 have c:(do pure (.value (←Instr.field 119 (.agg #[c0,c1,c2,c3,c4,c5,c6,c7,c8,c9,c10,c11]) 2)):Sem Next).run lT w= .ok (.value c9) w:=by kernel_rfl
 rw[e,c]
theorem L0(a:o.op= .field 119 x 3)(b:ev x= .agg #[c0,c1,c2,c3,c4,c5,c6,c7,c8,c9,c10,c11]):(execOp ev o).run lT w= .ok (.value c10) w:=by
 have e:execOp ev o=(do pure (.value (←Instr.field 119 (.agg #[c0,c1,c2,c3,c4,c5,c6,c7,c8,c9,c10,c11]) 3))):=by simp only[execOp,a,b]
 have c:(do pure (.value (←Instr.field 119 (.agg #[c0,c1,c2,c3,c4,c5,c6,c7,c8,c9,c10,c11]) 3)):Sem Next).run lT w= .ok (.value c10) w:=by kernel_rfl
 rw[e,c]
theorem KM(a:o.op= .field 119 x 4)(b:ev x= .agg #[c0,c1,c2,c3,c4,c5,c6,c7,c8,c9,c10,c11]):(execOp ev o).run lT w= .ok (.value c11) w:=by
 have e:execOp ev o=(do pure (.value (←Instr.field 119 (.agg #[c0,c1,c2,c3,c4,c5,c6,c7,c8,c9,c10,c11]) 4))):=by simp only[execOp,a,b]
 have c:(do pure (.value (←Instr.field 119 (.agg #[c0,c1,c2,c3,c4,c5,c6,c7,c8,c9,c10,c11]) 4)):Sem Next).run lT w= .ok (.value c11) w:=by kernel_rfl
 rw[e,c]
theorem Ld(a:o.op= .field 115 x 0)(b:ev x= .agg #[c0,c1,c2,c3,c4,c5,c6,c7]):(execOp ev o).run lT w= .ok (.value c0) w:=by
 have e:execOp ev o=(do pure (.value (←Instr.field 115 (.agg #[c0,c1,c2,c3,c4,c5,c6,c7]) 0))):=by simp only[execOp,a,b]
 have c:(do pure (.value (←Instr.field 115 (.agg #[c0,c1,c2,c3,c4,c5,c6,c7]) 0)):Sem Next).run lT w= .ok (.value c0) w:=by kernel_rfl
 rw[e,c]
theorem Lc(a:o.op= .field 115 x 1)(b:ev x= .agg #[c0,c1,c2,c3,c4,c5,c6,c7]):(execOp ev o).run lT w= .ok (.value c1) w:=by
 have e:execOp ev o=(do pure (.value (←Instr.field 115 (.agg #[c0,c1,c2,c3,c4,c5,c6,c7]) 1))):=by simp only[execOp,a,b]
 have c:(do pure (.value (←Instr.field 115 (.agg #[c0,c1,c2,c3,c4,c5,c6,c7]) 1)):Sem Next).run lT w= .ok (.value c1) w:=by kernel_rfl
 rw[e,c]
theorem Lb(a:o.op= .field 115 x 2)(b:ev x= .agg #[c0,c1,c2,c3,c4,c5,c6,c7]):(execOp ev o).run lT w= .ok (.value c2) w:=by
 have e:execOp ev o=(do pure (.value (←Instr.field 115 (.agg #[c0,c1,c2,c3,c4,c5,c6,c7]) 2))):=by simp only[execOp,a,b]
 have c:(do pure (.value (←Instr.field 115 (.agg #[c0,c1,c2,c3,c4,c5,c6,c7]) 2)):Sem Next).run lT w= .ok (.value c2) w:=by kernel_rfl
 rw[e,c]
theorem La(a:o.op= .field 115 x 3)(b:ev x= .agg #[c0,c1,c2,c3,c4,c5,c6,c7]):(execOp ev o).run lT w= .ok (.value c3) w:=by
 have e:execOp ev o=(do pure (.value (←Instr.field 115 (.agg #[c0,c1,c2,c3,c4,c5,c6,c7]) 3))):=by simp only[execOp,a,b]
 have c:(do pure (.value (←Instr.field 115 (.agg #[c0,c1,c2,c3,c4,c5,c6,c7]) 3)):Sem Next).run lT w= .ok (.value c3) w:=by kernel_rfl
 rw[e,c]
theorem L9(a:o.op= .field 115 x 4)(b:ev x= .agg #[c0,c1,c2,c3,c4,c5,c6,c7]):(execOp ev o).run lT w= .ok (.value c4) w:=by
 have e:execOp ev o=(do pure (.value (←Instr.field 115 (.agg #[c0,c1,c2,c3,c4,c5,c6,c7]) 4))):=by simp only[execOp,a,b]
 have c:(do pure (.value (←Instr.field 115 (.agg #[c0,c1,c2,c3,c4,c5,c6,c7]) 4)):Sem Next).run lT w= .ok (.value c4) w:=by kernel_rfl
 rw[e,c]
theorem L8(a:o.op= .field 115 x 5)(b:ev x= .agg #[c0,c1,c2,c3,c4,c5,c6,c7]):(execOp ev o).run lT w= .ok (.value c5) w:=by
 have e:execOp ev o=(do pure (.value (←Instr.field 115 (.agg #[c0,c1,c2,c3,c4,c5,c6,c7]) 5))):=by simp only[execOp,a,b]
 have c:(do pure (.value (←Instr.field 115 (.agg #[c0,c1,c2,c3,c4,c5,c6,c7]) 5)):Sem Next).run lT w= .ok (.value c5) w:=by kernel_rfl
 rw[e,c]
theorem L6(a:o.op= .field 115 x 6)(b:ev x= .agg #[c0,c1,c2,c3,c4,c5,c6,c7]):(execOp ev o).run lT w= .ok (.value c6) w:=by
 have e:execOp ev o=(do pure (.value (←Instr.field 115 (.agg #[c0,c1,c2,c3,c4,c5,c6,c7]) 6))):=by simp only[execOp,a,b]
 have c:(do pure (.value (←Instr.field 115 (.agg #[c0,c1,c2,c3,c4,c5,c6,c7]) 6)):Sem Next).run lT w= .ok (.value c6) w:=by kernel_rfl
 rw[e,c]
theorem L5(a:o.op= .field 115 x 7)(b:ev x= .agg #[c0,c1,c2,c3,c4,c5,c6,c7]):(execOp ev o).run lT w= .ok (.value c7) w:=by
 have e:execOp ev o=(do pure (.value (←Instr.field 115 (.agg #[c0,c1,c2,c3,c4,c5,c6,c7]) 7))):=by simp only[execOp,a,b]
 have c:(do pure (.value (←Instr.field 115 (.agg #[c0,c1,c2,c3,c4,c5,c6,c7]) 7)):Sem Next).run lT w= .ok (.value c7) w:=by kernel_rfl
 rw[e,c]
theorem DV{r:List Value}(hop:o.op= .load 119 x)(hx:ev x= .pointer (some ⟨b,0,none⟩))(h:w.heap[b]?=some (.cells (c0::c1::c2::c3::c4::c5::c6::c7::c8::c9::c10::c11::r:List Value).toArray 119)):(execOp ev o).run lT w= .ok (.value (.agg #[c0,c1,c2,c3,c4,c5,c6,c7,c8,c9,c10,c11])) w:=by
 have h1:(isAgg 119).run lT w= .ok true w:=by kernel_rfl
 have hc:=o9 h;simp[execOp,hop,hx,Instr.loadAt,loadVar,h1,loadCells,loadCellsFrom,Addr.add,hc,go_sem]
end
theorem D5(h:(args++Array.replicate k undef)[i]?=some v)(hv:v≠undef):args[i]?=some v:=by
 by_cases a:i<args.size
 ·rwa [Array.getElem?_append_left a]at h
 ·rw[Array.getElem?_append_right (by omega),Array.getElem?_replicate]at h;split at h
  ·cases h;exact absurd rfl hv
  ·cases h
end L1
end Go.Proofs.YtkmoglhgkcnalaaGreatDoor
