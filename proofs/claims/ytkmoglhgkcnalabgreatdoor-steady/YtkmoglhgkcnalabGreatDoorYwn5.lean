/- A part of what the last text imports. -/
import Derived.Laws.CopyRow
import Derived.Laws.AppendOwn
import Derived.Conc.AppendEvents3
import Derived.Conc.AppendWalk
import Derived.Test.YtkmoglhgkcnalabGreatDoorYwn4
set_option maxHeartbeats 16000000
set_option maxRecDepth 100000
open Array renaming getElem?_eq_getElem->TH,getElem?_map->TQ,length_toList->V4,toList_map->Vj,getElem?_toList->VG,mem_push->Xi,toArray_toList->Zs
open Bool renaming false_eq_true->TK
open ByteArray renaming size_append->AS,size_extract->TT
open Go.Addr renaming add_mid->Uu
open Go.Builtin renaming firstCells->Vr,zeroCells->VS,append_->VX,lenOf->WC,copy_->WE
open Go.Ending renaming returned->Wx
open Go.Frame renaming enter->TJ
open Go.Instr renaming loadAt->TN,fieldAt->TS,buildSlice->Uf,build->Uj,alloc->Uo,sliceAt->UF,sureAddr->V2,makeInterface->Vm,makeSlice->Vx
open Go.IntKind renaming wrap_i64->TR,i64->U2
open Go.Obj renaming cells->Xm
open Go.Op renaming equalIn->V6,eqFields->XF
open Go.Program renaming fieldsOf->a97
open Go.Question renaming forced->Y3
open Go.Region renaming wanted->TD
open Go.Result renaming andThen_ok->UR,evThen_ok->Wl,evThen->Xv,andThen->XM
open Go.RowKit.Below renaming refl->Xd
open Go.Sem renaming run_bind->Uz,events_bind->VY,run_pure->a88,events_pure->ab0
open Go.StepsIn renaming steps->W3,of_steps->WO
open Go.Value renaming oneCell'->Va,slice->aa4
open Go.World renaming cell?->U6,frozen?->Ux
open Int renaming natCast_pow->UY,natCast_ediv->W0,le_refl->Yz,emod_lt_of_pos->ZN,emod_nonneg->ab_
open List renaming getElem?_eq_some_iff->TM,lookup->TU,getD_eq_getElem?_getD->TV,getElem?_eq_getElem->TX,not_mem_nil->TY,replicate->TZ,mem_cons->U4,range->U5,getElem?_map->Up,length_map->UO,length_append->UT,take_of_length_le->UU,map_append->VM,append_assoc->VT,mem_map->Wh,getElem?_replicate->WM,getElem?_toArray->X3,getElem?_take->XA,drop_eq_nil_of_le->XP,getElem_replicate->Z1,mem_append->Z8,length_replicate->Zf,take_succ_cons->Zy,drop_succ_cons->Zz,getElem?_set->a87,drop_append->a96
open Nat renaming le_refl->TB,lt_of_lt_of_le->TC,zero_add->TL,le_trans->TW,lt_of_le_of_lt->Wo,add_zero->XN,div_le_self->Y8,xor_lt_two_pow->Yu,mul_one->YA
open Ne renaming symm->UP
open Option renaming map_eq_some_iff->U1,isSome_iff_exists->W2
namespace Go.Proofs.YtkmoglhgkcnalabGreatDoor
open Go
variable{n b i N l m k j b3 b4 b7 b9 Wg wd:Nat}{w w' w0 wL wM wE:World}{fr:Frame}{v:Value}{cs:List Frame}{args cv:Array Value}{V RO D V0:Nat->Prop}{q main listen ql:Bool}{g:Goroutine}{a:Act}{K:List Item}{P PL PM:Program}{x:Operand}{ops:Array Oper}{KS:List Int}{t u:TypeId}{o:Oper}{f:FuncId}{es:Array Event}{Goal:Goroutine->World->Prop}{fn:Func}{rest:List Nat}{ds:List Deferred}{X:bS}{F:List (Nat×Value)}{e:Event}{listed:Array Bool}{c:Int}{s msg key sig:ByteArray}{ρ:Nat->Nat}{ev:Operand->Value}{Post:Value->World->Prop}
namespace L1
open Go.Conc Go.RowKit
section
variable{y z u:Operand}
theorem Oj(a:o.op= .alloc 34):(execOp ev o).run lT w= .ok (.value (.pk w.heap.size 0)) (w.alloc (.cells #[.i 0] 34)):=by
 have e:execOp ev o=(do pure (.value (←Uo 34 true (.tuple #[])))):=by simp only[execOp,a]
 have b:(do pure (.value (←Uo 34 true (.tuple #[]))):Sem Next).run lT w= .ok (.value (.pk w.heap.size 0)) (w.alloc (.cells #[.i 0] 34)):=k_
 rw[e,b]
theorem nM{m:Sem Value}(h:m.run P w= .ok v w'):(do pure (.value (←m)):Sem Next).run P w= .ok (.value v) w':=by simp[h]
theorem Rh(a:o.op= .makeSlice 46 x y)(c:ev x= .i 4)(b:ev y= .i 4):(execOp ev o).run lT w= .ok (.value (.sk w.heap.size 4 4)) (w.alloc (.cells #[.bool false, .bool false, .bool false, .bool false] 4)):=by
 have h:=run_make_row' (P:=lT) 46 4 (Value.bool false) 1 k_ k_ rfl .i64 .i64 4 o_ o_ w;rw[fg]at h;have e:execOp ev o=(do pure (.value (←Vx 46 (.i 4) (.i 4)))):=by simp only[execOp,a,c,b]
 rw[e];exact nM h
theorem Rf(a:o.op= .makeSlice 25 x y)(c:ev x= .i 4)(b:ev y= .i 4):(execOp ev o).run lT w= .ok (.value (.sk w.heap.size 4 4)) (w.alloc (.cells #[.string ⟨#[]⟩, .string ⟨#[]⟩, .string ⟨#[]⟩, .string ⟨#[]⟩] 9)):=by
 have h:=run_make_row' (P:=lT) 25 9 (Value.string ⟨#[]⟩) 16 k_ k_ rfl .i64 .i64 4 o_ o_ w;rw[fg]at h;have e:execOp ev o=(do pure (.value (←Vx 25 (.i 4) (.i 4)))):=by simp only[execOp,a,c,b]
 rw[e];exact nM h
theorem O2{st le:Int}{c d:Option Addr}{f a g b:Nat}(h:o.op= .build 48 #[(0,x),(1,y),(2,z),(3,u)])(k:ev x= .i st)(j:ev y= .slice c f a)(i:ev z= .i le)(l:ev u= .slice d g b):(execOp ev o).run lT w= .ok (.value (.agg (i7 st le (.slice c f a) (.slice d g b)))) w:=by
 have e:execOp ev o=(do pure (.value (←Uj 48 #[(0, .i st),(1, .slice c f a),(2, .i le),(3, .slice d g b)]))):=by simp[execOp,h,k,j,i,l]
 have m:(do pure (.value (←Uj 48 #[(0, .i st),(1, .slice c f a),(2, .i le),(3, .slice d g b)])):Sem Next).run lT w= .ok (.value (.agg (i7 st le (.slice c f a) (.slice d g b)))) w:=k_
 rw[e,m]
end
def GR(N0:Nat)(st le:Int):Nat->Value->World->Prop
 |0,v,_=>v= .int .i64 st
 |1,v,w=>∃bu,N0<=bu/\v= .sk bu 4 4/\w.heap[bu]?=some (.cells #[.bool false, .bool false, .bool false, .bool false] 4)
 |2,v,_=>v= .int .i64 le
 |3,v,w=>∃bh,N0<=bh/\v= .sk bh 4 4/\w.heap[bh]?=some (.cells #[.string ⟨#[]⟩, .string ⟨#[]⟩, .string ⟨#[]⟩, .string ⟨#[]⟩] 9)
 |4,v,w=>∃bu bh,N0<=bu/\N0<=bh/\v= .agg (i7 st le (.sk bu 4 4) (.sk bh 4 4))/\w.heap[bu]?=some (.cells #[.bool false, .bool false, .bool false, .bool false] 4)/\w.heap[bh]?=some (.cells #[.string ⟨#[]⟩, .string ⟨#[]⟩, .string ⟨#[]⟩, .string ⟨#[]⟩] 9)
 |5,v,w=>∃b7,N0<=b7/\v= .pk b7 0/\w.heap[b7]?=some (.cells (i7 0 0 (.slice none 0 0) (.slice none 0 0)) 48)
 |_,_,_=>True
theorem Mn{b:Nat}{st le:Int}(n:Nat)(v:Value)(w w':World)(h:GR b st le n v w)(a:Bw w w'):GR b st le n v w':=by
 match n,h with
 |0,h=>exact h
 |1,⟨bu,h1,h2,h3⟩=>exact⟨bu,h1,h2,bk a h3⟩
 |2,h=>exact h
 |3,⟨bu,h1,h2,h3⟩=>exact⟨bu,h1,h2,bk a h3⟩
 |4,⟨bu,bh,h1,h2,h3,h4,h5⟩=>exact⟨bu,bh,h1,h2,h3,bk a h4,bk a h5⟩
 |5,⟨bu,h1,h2,h3⟩=>exact⟨bu,h1,h2,bk a h3⟩
 |_+6,_=>trivial
section
variable{st le:Int}{fx:List (Nat×Value)}{sv p2 p3:Value}
theorem RD(f:aW [(0,sv),(2,p2),(3,p3),(4, .i st),(6, .i le)] 56 [] a)
 (next:∀a e b7 b c,Bw w e->w.heap.size<=b7->w.heap.size<=b->w.heap.size<=c->e.heap[b7]?=some (.cells (i7 st le (.sk b 4 4) (.sk c 4 4)) 48)->e.heap[b]?=some (.cells #[.bool false, .bool false, .bool false, .bool false] 4)->e.heap[c]?=some (.cells #[.string ⟨#[]⟩, .string ⟨#[]⟩, .string ⟨#[]⟩, .string ⟨#[]⟩] 9)->aW [(0,sv),(2,p2),(3,p3),(7, .pt b7)] 56 [] a->Rn lT Goal ((base 36).atR a K) cs e):
 Rn lT Goal ((base 36).atR a (.code (rD Tryz.f36 9)::K)) cs w:=by
 refine Rn.ptab1 (R:=λa e=>∃b7 b c,Bw w e/\w.heap.size<=b7/\w.heap.size<=b/\w.heap.size<=c/\e.heap[b7]?=some (.cells (i7 st le (.sk b 4 4) (.sk c 4 4)) 48)/\e.heap[b]?=some (.cells #[.bool false, .bool false, .bool false, .bool false] 4)/\e.heap[c]?=some (.cells #[.string ⟨#[]⟩, .string ⟨#[]⟩, .string ⟨#[]⟩, .string ⟨#[]⟩] 9)/\aW [(0,sv),(2,p2),(3,p3),(7, .pt b7)] 56 [] a) (λa e ⟨b7,b,c,p,m,l,k,N,M,L,J⟩=>next a e b7 b c p m l k N M L J) f
  [30,31,32,33,34,7] (GR w.heap.size st le) Mn (λn o a A H z=> ?_) (λa A q I f u j=> ?_)
 ·match n,H,z with
  |0,_,z=>exact aJ (O8 z.e (z.f 4)) ⟨rfl,bR⟩
  |1,_,z=>exact aJ (Rh (x:= .const (.i 4)) (y:= .const (.i 4)) z.e rfl rfl) ⟨⟨_,z.b.size,rfl,bJ _ _⟩,aV _ _⟩
  |2,_,z=>exact aJ (O8 z.e (z.f 6)) ⟨rfl,bR⟩
  |3,_,z=>exact aJ (Rf (x:= .const (.i 4)) (y:= .const (.i 4)) z.e rfl rfl) ⟨⟨_,z.b.size,rfl,bJ _ _⟩,aV _ _⟩
  |4,_,z=>
   obtain⟨Y,S,rfl⟩:=z.k 0 (d:=30);obtain⟨X,Q,b,p,rfl,m⟩:=z.k 1 (d:=31);obtain⟨W,P,rfl⟩:=z.k 2 (d:=32);obtain⟨V,O,c,l,rfl,k⟩:=z.k 3 (d:=33);exact aJ (O2 z.e S Q P O) ⟨⟨b,c,p,l,rfl,m,k⟩,bR⟩
  |5,_,z=>exact aJ (HT z.e) ⟨⟨_,z.b.size,rfl,bJ _ _⟩,aV _ _⟩
 ·obtain⟨U,C,b,c,E,D,rfl,t,s⟩:=u 4 34 rfl;obtain⟨T,B,b7,r,rfl,i⟩:=u 5 7 rfl;have f:aW [(7, .pt b7),(34, .agg (i7 st le (.sk b 4 4) (.sk c 4 4))),(0,sv),(2,p2),(3,p3)] 56 [] a:=⟨f.defers,f.size,λd v g=>by
   rw[TU]at g;split at g
   ·rename_i h;cases g;rw[show d=7 from by simpa using h];exact B
   rw[TU]at g;split at g
   ·rename_i h;cases g;rw[show d=34 from by simpa using h];exact C
   exact(f.only (G:=[(0,sv),(2,p2),(3,p3)]) ⟨rfl,rfl,rfl,trivial⟩).slot d v g⟩
  refine Rn.does0 f (.store 48 (.tmp 7) (.tmp 34)) k_ s_ (λo F=>vj F (f.G 7) (f.G 34) i rfl) λa f=>j a _ ⟨b7,b,c,I.trans (dA r),r,E,D,cP i,(bX (cC t i d_)).trans t,(bX (cC s i d_)).trans s,f.only ⟨rfl,rfl,rfl,rfl,trivial⟩⟩
end
theorem P3:Tryz.f36.body=some (.seq (rG Tryz.f36 0) (.seq (.seq (rG Tryz.f36 1) (.cond (.tmp 12) (.seq (rG Tryz.f36 2) .ret) .skip)) (.seq (rG Tryz.f36 3) (.seq (.seq (rG Tryz.f36 4) (.cond (.tmp 20) (.seq (rG Tryz.f36 5) .ret) .skip)) (.seq (rG Tryz.f36 6) (.seq (.seq (rG Tryz.f36 7) (.cond (.tmp 28) (.seq (rG Tryz.f36 8) .ret) .skip)) (.seq (rD Tryz.f36 9) (.seq (.seq (rG Tryz.f36 10) (.block 0 (.rangeFunc (.tmp 36) #[37,38] (M8 Tryz.f36) (DX Tryz.f36)))) (.seq (rG Tryz.f36 17) .ret))))))))):=k_
theorem KW:CB:=by
 intro W w E i q a4 Q hr a9;refine uP (t:=2) (u:=3) (ty:=48) (ty':=34) (n:=4) Lf.func36 rfl (by rw[cq];exact Tryz.underlying48) rfl If (λw=>k_) λcs=> ?_;rw[aZ (N:=56) [(.slice (some ⟨E,i,none⟩) 85 q:Value)] Lf.func36 P3 rfl];have d:=aQ [(.slice (some ⟨E,i,none⟩) 85 q:Value)] 56 s_;refine Rn.al d (λo k=>HT k) λI a b1 m z1 d=> ?_;refine Rn.al d (λo k=>Oj k) λw2 a b2 x z2 d=> ?_;have B2:=aE b1 b1.size b2;have m:=bk b2 m;have rg:∀{w':World},Bw w w'->w'.rangeAt E i (W.map (Value.int .i64)):=λhb j v P=>d9 hb (hr j v P);refine Rn.uc d λa d=> ?_;refine Rn.cw d Lf.func47 (Ah Q E i q w2 (rg B2)) λw' hw a d=> ?_;rw[hw];refine Rn.uc d λa d=> ?_;refine Rn.p rfl (Rn.cond _ (d.G 12) ?_);refine Rn.uc d λa d=> ?_;refine Rn.cl d Lf.func48 (EA Q E i q w2 (rg B2)) λv w3 P a d=> ?_;obtain⟨s,rfl,hs,b3⟩:=P;have B3:=aE B2 B2.size b3;have m:=bk b3 m;have x:=bk b3 x;have z3:=b3.size
 iterate 7 refine Rn.uc d λa d=> ?_
 refine Rn.p rfl (Rn.cond _ (d.G 20) ?_);cases z:JY W with
 |false=>
  have J:yO W=false:=by rw[yO,z];rfl
  refine Rn.vv d (λo k=>Bh k) λa d=> ?_;refine Rn.nn d (λo k=>vj k (d.G 2) (d.G 21) m rfl) λa d=> ?_;have K:=(bX (cs:=i7 0 0 (.slice none 0 0) (.slice none 0 0)) (t:=48) (cC x m d_)).trans x;refine Rn.nn d (λo k=>gj (v:= .i 1) rfl rfl k_ k (d.G 3) rfl K (d_:0<1)) λa d=> ?_;have D:=cP (cs:=i7 0 0 (.slice none 0 0) (.slice none 0 0)) (t:=48) m;exact Rn.runs 6 _ (Rn.ends rfl (.inr ⟨_,rfl⟩) (Rn.now ⟨_,_,w.heap.size,_,_,⟨I.heap.size,0,none⟩, .i 1,rfl,d.defers,d.slot 2 _ rfl,(bX (cC D K d_)).trans D,rfl,d.slot 3 _ rfl,(aG (cP K) 0).trans rfl,_,rfl,0,0,1,none,0,0,none,0,0,[],[],rfl, .inr ⟨J,rfl⟩,(B3.trans (dA (TB _))).trans (dA o_),λe=>by cases e⟩))
 |true=>
  refine Rn.uc d λa d=> ?_;refine Rn.cl d Lf.func49 (BQ Q E i q w3 (rg B3)) λv w4 P a d=> ?_;obtain⟨M,rfl,a0,b4⟩:=P;have B4:=aE B3 B3.size b4;have m:=bk b4 m;have x:=bk b4 x;have z4:=b4.size
  iterate 7 refine Rn.uc d λa d=> ?_
  refine Rn.p rfl (Rn.cond _ (d.G 28) ?_);cases G:ME W with
  |false=>
   have J:yO W=false:=(by rw[yO,z,G];rfl);refine Rn.vv d (λo k=>Bh k) λa d=> ?_;refine Rn.nn d (λo k=>vj k (d.G 2) (d.G 29) m rfl) λa d=> ?_;have K:=(bX (cs:=i7 0 0 (.slice none 0 0) (.slice none 0 0)) (t:=48) (cC x m d_)).trans x;refine Rn.nn d (λo k=>gj (v:= .i 1) rfl rfl k_ k (d.G 3) rfl K (d_:0<1)) λa d=> ?_;have D:=cP (cs:=i7 0 0 (.slice none 0 0) (.slice none 0 0)) (t:=48) m;exact Rn.runs 6 _ (Rn.ends rfl (.inr ⟨_,rfl⟩) (Rn.now ⟨_,_,w.heap.size,_,_,⟨I.heap.size,0,none⟩, .i 1,rfl,d.defers,d.slot 2 _ rfl,(bX (cC D K d_)).trans D,rfl,d.slot 3 _ rfl,(aG (cP K) 0).trans rfl,_,rfl,0,0,1,none,0,0,none,0,0,[],[],rfl, .inr ⟨J,rfl⟩,(B4.trans (dA (TB _))).trans (dA o_),λe=>by cases e⟩))
  |true=>
   have d:aW [(0,(.slice (some ⟨E,i,none⟩) 85 q:Value)),(2, .pt w.heap.size),(3, .pt I.heap.size),(4, .i s),(6, .i M)] 56 [] a:=d.only ⟨rfl,rfl,rfl,rfl,rfl,trivial⟩;refine Rn.p rfl (Rn.p rfl ?_);refine RD d λa C b7 X Y Z l7 lu lh V R S d=> ?_;have B5:=aE B4 B4.size Z;have m:=bk Z m;have x:=bk Z x;have z5:=Z.size;have a8:=aK V;have a6:=aK R;have a7:=aK S;refine Rn.uc d λa d=> ?_;refine Rn.cw d Lf.func50 (yW (.slice (some ⟨E,i,none⟩) 85 q:Value) rfl C) λf F a d=> ?_;have L:Bw C f:=(by rw[F];exact aV _ _);have c6:f.heap[C.heap.size]?=some (.cells #[(.slice (some ⟨E,i,none⟩) 85 q:Value)] 22):=(by rw[F];exact bJ _ _);have z6:f.heap.size=C.heap.size+1:=(by rw[F];exact aR _ _);clear F;have B6:=aE B5 B5.size L;have m:=bk L m;have x:=bk L x;have V:=bk L V;have R:=bk L R;have S:=bk L S;refine Rn.p rfl (Rn.p rfl ?_);refine Rn.rangeAs (tG Tryz.f36 a.tmps f.heap.size .ready none) (args:=[.func (.yield (f.heap.size+1)) #[] #[], .pk C.heap.size 0].toArray) rfl rfl Lf.func61 k_ k_ (d.G 36) rfl ?_;have hC:Cr w w.heap.size I.heap.size b7 X Y C.heap.size (f.heap.size+1) f.heap.size (tG Tryz.f36 a.tmps f.heap.size .ready none) (.slice (some ⟨E,i,none⟩) 85 q:Value) s M 0 (jl W 0) (jA W 0) (cR f (tG Tryz.f36 a.tmps f.heap.size .ready none)):=
    ⟨aE B6 B6.size (fO f _),⟨_,rfl,(bM f _ o_).trans m⟩,(bM f _ o_).trans x,(bM f _ o_).trans V,(bM f _ o_).trans R,(bM f _ o_).trans S,(bM f _ o_).trans c6,eL f _,eK f _,⟨o_,o_,o_,o_,o_⟩,o_⟩
   revert hC;generalize cR f (tG Tryz.f36 a.tmps f.heap.size .ready none)=w8;intro hC;rw[aZ (N:=21) _ Lf.func61 P5 rfl];have a3:=aQ [.func (.yield (f.heap.size+1)) #[] #[], .pk C.heap.size 0] 21 s_;revert a3;generalize (Act.mk (([.func (.yield (f.heap.size+1)) #[] #[], .pk C.heap.size 0]:List Value).toArray++Array.replicate (21-([.func (.yield (f.heap.size+1)) #[] #[], .pk C.heap.size 0]:List Value).toArray.size) undef) [])=gg;intro hG;refine Rn.uc hG λgg hG=> ?_;refine Rn.p rfl (Rn.p rfl (Rn.p rfl ?_));have hT:aW [(2, .pt w.heap.size),(3, .pt I.heap.size),(7, .pt b7)] 56 [] a:=d.only ⟨rfl,rfl,rfl,trivial⟩;have hD:aW [(2, .pt w.heap.size),(3, .pt I.heap.size),(7, .pt b7)] 56 [{target:= .collected f.heap.size,args:=#[]}] ⟨a.tmps,{target:= .collected f.heap.size,args:=#[]}::a.defers⟩:=⟨by rw[d.defers],d.size,hT.slot⟩;have r:∀(y:World) {b:Nat} {ob:Obj},b≠f.heap.size->y.heap[b]?=some ob->({y with heap:=y.heap.setIfInBounds f.heap.size (.deferred none)}:World).heap[b]?=some ob:=λy b ob hb h=>(sN (UP hb)).trans h;refine Rl (T:=a.tmps) (w0:=w) a4 Q hr ⟨rfl,hT.size,hT.slot⟩ (λA y p=> ?_) (λA U H y p hz=> ?_) _ 0 gg w8 rfl o_ (λj hj=>o_) (hG.only ⟨rfl,rfl,rfl,trivial⟩) hC
   ·show Rn lT _ ((base 36).atR ⟨a.tmps,{target:= .collected f.heap.size,args:=#[]}::a.defers⟩ (.endRangeFunc (f.heap.size+1)::_)) cs y;revert hD;generalize (Act.mk a.tmps ({target:= .collected f.heap.size,args:=#[]}::a.defers))=a2;intro d;refine Rn.rangeOver p.loop rfl rfl ?_;have g:=p.turn (tG Tryz.f36 a.tmps f.heap.size .exhausted none);revert g;show Cr _ _ _ _ _ _ _ _ _ _ _ _ _ _ _ _ (bP y (f.heap.size+1) {tG Tryz.f36 a.tmps f.heap.size .ready none with state:= .exhausted})->_;generalize bP y (f.heap.size+1) {tG Tryz.f36 a.tmps f.heap.size .ready none with state:= .exhausted}=a5;intro g;obtain⟨c,a1,hc⟩:=g.res;refine Rn.vv d (λo k=>yH k (d.G 7) g.fus) λa d=> ?_;refine Rn.nn d (λo k=>vj k (d.G 2) (d.G 55) hc a1) λa d=> ?_;have B:=g.setR (i7 s M (.sk X 4 4) (.sk Y 4 4)) rfl;have D:=cP (cs:=i7 s M (.sk X 4 4) (.sk Y 4 4)) (t:=48) hc;refine Rn.nn d (λo k=>gj (v:= .i 0) rfl rfl k_ k (d.G 3) rfl B.err (d_:0<1)) λa d=> ?_;have l:=B.setE 0;have D:=(bX (cs:=#[.i 0]) (t:=34) (cC D B.err d_)).trans D;refine Rn.p rfl (Rn.ends rfl (.inr ⟨_,rfl⟩) (Rn.take (ds:=[]) d.defers l.list (Rn.now ⟨⟨a.tmps,[]⟩,_,w.heap.size,_,_,⟨I.heap.size,0,none⟩, .i 0,rfl,rfl,d.slot 2 _ rfl,r _ o_ D,rfl,d.slot 3 _ rfl,(aG (r _ o_ l.err) 0).trans rfl,_,rfl,s,M,0,_,_,_,_,_,_,No W,OB W,rfl, .inl ⟨?_,rfl,hs z,a0 G,rfl,rfl⟩,l.old.trans (fG _ _ o_),λ_=>⟨X,Y,rfl,rfl,rfl,rfl,rfl,rfl,r _ o_ l.us,r _ o_ l.hs⟩⟩)));rw[yO,z,G,A];rfl
   ·show Rn lT _ ((base 36).atR ⟨a.tmps,{target:= .collected f.heap.size,args:=#[]}::a.defers⟩ (.endRangeFunc (f.heap.size+1)::_)) cs y;revert hD;generalize (Act.mk a.tmps ({target:= .collected f.heap.size,args:=#[]}::a.defers))=a2;intro d;refine Rn.rangeQuit p.loop rfl rfl ?_;have g:=p.turn (tG Tryz.f36 a.tmps f.heap.size .exhausted (some .ret));have O:=(bD y (tG Tryz.f36 a.tmps f.heap.size .exhausted (some .ret)) (gi hz p.loop)).trans hz;refine Rn.ends rfl (.inr ⟨_,rfl⟩) (Rn.take (ds:=[]) d.defers g.list (Rn.now ⟨⟨a2.tmps,[]⟩,_,w.heap.size,_,_,⟨I.heap.size,0,none⟩, .i 1,rfl,rfl,d.slot 2 _ rfl,r _ o_ O,rfl,d.slot 3 _ rfl,(aG (r _ o_ g.err) 0).trans rfl,_,rfl,0,0,1,none,0,0,none,0,0,[],[],rfl, .inr ⟨?_,rfl⟩,g.old.trans (fG _ _ o_),λe=>by cases e⟩));rw[yO,z,G,A];rfl
def Jx(n:Nat):List Int:=TZ n 0
section
variable{y z:Operand}
theorem KR{p:Option Addr}{c:Nat}(a:o.op= .build 82 #[(0,x)])(b:ev x= .slice p l c):(execOp ev o).run lT w= .ok (.value (.agg (mn (.slice p l c) (Jx 85) (Jx 16) false 0))) w:=by
 have e:execOp ev o=(do pure (.value (←Uj 82 #[(0, .slice p l c)]))):=by simp[execOp,a,b]
 have d:(do pure (.value (←Uj 82 #[(0, .slice p l c)])):Sem Next).run lT w= .ok (.value (.agg (mn (.slice p l c) (Jx 85) (Jx 16) false 0))) w:=k_
 rw[e,d]
theorem NZ{a:Nat}(b:o.op= .build 61 #[(0,x)])(c:ev x= .pk a 0):(execOp ev o).run lT w= .ok (.value (.agg #[.pk a 0])) w:=by
 have e:execOp ev o=(do pure (.value (←Uj 61 #[(0, .pt a)]))):=by simp[execOp,b,c]
 have d:(do pure (.value (←Uj 61 #[(0, .pt a)])):Sem Next).run lT w= .ok (.value (.agg #[.pk a 0])) w:=k_
 rw[e,d]
theorem KN(a:o.op= .slice 78 x none none none)(c:ev x= .pk b 86):(execOp ev o).run lT w= .ok (.value (.slice (some ⟨b,86,none⟩) 16 16)) w:=by
 have e:execOp ev o=(do pure (.value (←UF 78 (.pk b 86) none none none))):=by simp only[execOp,a,c];rfl
 have d:(do pure (.value (←UF 78 (.pk b 86) none none none)):Sem Next).run lT w= .ok (.value (.slice (some ⟨b,86,none⟩) 16 16)) w:=k_
 rw[e,d]
theorem NI{m:Sem Value}(h:m.run P w= .ok v w'):(do pure (.value (←m)):Sem Next).run P w= .ok (.value v) w':=by simp[h]
theorem IL{g off cap:Nat}{fl:Value}{c W K:List Int}{on:Bool}{sl:Int}(i:c.length=85)(a:W.length=85)(l:w.heap[b]?=some (.cells (mn fl c K on sl) t))(q:w.rangeAt g off (W.map (Value.int .i64)))(f:o.op= .call {callee:= .builtin .copy,args:=#[.tmp k, .tmp j],argTypes:=#[22,22]})(n:ev (.tmp k)= .slice (some ⟨b,1,none⟩) 85 85)(m:ev (.tmp j)= .slice (some ⟨g,off,none⟩) 85 cap):
 (execOp ev o).run lT w= .ok (.value (.i 85)) (et w b (mn fl W K on sl) t):=by
 have e:execOp ev o=(do pure (.value (←WE #[22,22] o.type #[.slice (some ⟨b,1,none⟩) 85 85, .slice (some ⟨g,off,none⟩) 85 cap]))):=by simp[execOp,f,resolve,n,m,invoke,builtin]
 have p:(mn fl c K on sl).toList.take 1++W.map (Value.int .i64)++(mn fl c K on sl).toList.drop (1+(W.map (Value.int .i64)).length)=(mn fl W K on sl).toList:=by simp only[mn,UO,a];rw[show 1+85=85+1 from rfl,Zy,Zz,List.drop_append_of_le_length (by simp[i]),XP (by simp[i])];simp
 have h:=run_copy_row (P:=aI true tP) w 22 22 o.type 3 b 1 85 85 ⟨g,off,none⟩ 85 cap _ t (W.map (Value.int .i64)) k_ k_ l (by simp[a]) (λj v d=>by rw[Uu];exact q j v d) (by simp[mn,i,a]) (by intro v d;obtain⟨_,_,rfl⟩:=Wh.1 d;rfl);rw[p,Zs,ie l]at h;rw[e,NI h,UO,a];rfl
theorem LP{fl:Value}{W K:List Int}{on:Bool}{sl:Int}(a:W.length=85)(g:K.length=16)(hs:s.size=16)(l:w.heap[b]?=some (.cells (mn fl W K on sl) t))(d:o.op= .call {callee:= .builtin .copy,args:=#[.tmp k, .tmp j],argTypes:=#[62,9]})(p:ev (.tmp k)= .slice (some ⟨b,86,none⟩) 16 16)(n:ev (.tmp j)= .s s):
 (execOp ev o).run lT w= .ok (.value (.i 16)) (et w b (mn fl W (s.data.toList.map λb=>(b.toNat:Int)) on sl) t):=by
 have e:execOp ev o=(do pure (.value (←WE #[62,9] o.type #[.slice (some ⟨b,86,none⟩) 16 16, .s s]))):=by simp[execOp,d,resolve,p,n,invoke,builtin]
 have f:s.data.toList.length=16:=by rw[V4];exact hs
 have q:lT.underlying 62=some (.slice 5):=k_
 have m:(sizeOf 5).run lT w= .ok 1 w:=k_
 have r:List.take 16 (List.map (λb=>Value.int .u8 b.toNat) s.data.toList)=List.map (λb=>Value.int .u8 b.toNat) s.data.toList:=UU (by rw[UO,f];exact TB _);have c:(mn fl W K on sl).toList.take (86+0)++(s.data.map λb=>Value.int .u8 b.toNat).toList++(mn fl W K on sl).toList.drop (86+0+(s.data.map λb=>Value.int .u8 b.toNat).toList.length)=(mn fl W (s.data.toList.map λb=>(b.toNat:Int)) on sl).toList:=by simp only[mn,Vj,UO,f];rw[show 86+0+16=101+1 from rfl,show 86+0=85+1 from rfl,Zy,Zz,List.take_append_of_le_length (by simp[a]),UU (by simp[a]),a96,XP (by simp[a]),a96,XP (by simp[a,g])];simp[a,g]
 have h:=run_storeCells_at lT b 86 t (s.data.map λb=>Value.int .u8 b.toNat).toList 0 _ w l (by simp[mn,a,g,f]) (by intro v i;rw[Vj]at i;obtain⟨_,_,rfl⟩:=Wh.1 i;rfl);rw[c,Zs,ie l,Vj]at h;rw[e];simp[WE,run_underlying q,WC,Vr,m,hs,r,h,goInt]
end
theorem P8:Tryz.f41.body=some (.seq (rG Tryz.f41 0) (.seq (.seq (rG Tryz.f41 1) (.cond (.tmp 16) (.seq (rG Tryz.f41 2) .ret) .skip)) (.seq (rG Tryz.f41 3) (.seq (rG Tryz.f41 4) (.seq (rG Tryz.f41 5) (.seq (rG Tryz.f41 6) .ret)))))):=k_
theorem Pd:Tryz.f29.body=some (.seq (rG Tryz.f29 0) (.seq (rG Tryz.f29 1) (.seq (.seq (rG Tryz.f29 2) (.cond (.tmp 18) (.seq (rG Tryz.f29 3) .ret) .skip)) (.seq (rG Tryz.f29 4) .ret)))):=k_
section
variable{W:List Int}{L kp:ByteArray}{g off cap:Nat}
theorem HE(z:L.size=16384)(k:kp.size=16)(r:gW W)(J:w.rangeAt g off (W.map (Value.int .i64))):Calls lT 41 #[.s L, .slice (some ⟨g,off,none⟩) 85 cap, .s kp] w λe w'=>∃v,e= .returned v/\∃C fl,v= .tuple #[.pk C 0, .i 0]/\dL w' C fl W false 0/\lK w' fl L/\(w.heap.size<=C/\N3 w.heap.size fl)/\Bw w w':=by
 refine gR (t:=6) (u:=7) Lf.func41 rfl λcs=> ?_;rw[aZ (N:=34) [.s L, .slice (some ⟨g,off,none⟩) 85 cap, .s kp] Lf.func41 P8 rfl];have c:=aQ [.s L, .slice (some ⟨g,off,none⟩) 85 cap, .s kp] 34 s_
 iterate 3 refine Rn.uc c λa c=> ?_
 refine Rn.cw c Lf.func47 (Ah r g off cap w J) λw' O a c=> ?_;rw[O]
 iterate 4 refine Rn.uc c λa c=> ?_
 rw[k]at c;refine Rn.uc c λa c=> ?_;refine Rn.vv c (λo h=>yZ h (c.G 12) (c.G 15)) λa c=> ?_;refine Rn.p rfl (Rn.cond _ (c.G 16) ?_);refine Rn.uc c λa c=> ?_;refine Rn.vv c (λo h=>NR h (c.G 17)) λa c=> ?_;have f:L.size<=grownCap w L.size 0 5:=grownCap_ge w L.size 0 5;revert c f;generalize grownCap w L.size 0 5=d;intro c f;have n:Bw w (w.drew.alloc (.cells (bytesRow L d) 5 ((bytesRow L d).size,(bytesRow L d).size+1))):=(jF w).trans (aV w.drew _);have s:=bJ w.drew (.cells (bytesRow L d) 5 ((bytesRow L d).size,(bytesRow L d).size+1));have G:(w.drew.alloc (.cells (bytesRow L d) 5 ((bytesRow L d).size,(bytesRow L d).size+1))).heap.size=w.heap.size+1:=aR w.drew _;rw[show w.drew.heap.size=w.heap.size from rfl]at s;rw[z]at c f;have B:lK (w.drew.alloc (.cells (bytesRow L d) 5 ((bytesRow L d).size,(bytesRow L d).size+1))) (.sk w.heap.size 16384 d) L:=⟨z,w.heap.size,d,_,_,rfl,f,s,by
  have V:L.data.size=16384:=z;simp[bytesRow];omega,λj K=>by
  have y:j<L.data.size:=by rw[V4]at K;exact K
  rw[bytesRow_at L d j y,Array.getElem_toList]⟩
 revert n s G B;generalize w.drew.alloc (.cells (bytesRow L d) 5 ((bytesRow L d).size,(bytesRow L d).size+1))=m;intro n s G B;refine Rn.vv c (λo h=>KR h (c.G 18)) λa c=> ?_;refine Rn.zz c λq a F E U c=> ?_;have T:=B.keep (Ex.of_below (X:=λ_=>False) F) (λ_ _ _ _ e=>e);have M:=(λj v P=>d9 (aE n n.size F) (J j v P):q.rangeAt g off (W.map (Value.int .i64)))
 iterate 4 refine Rn.uc c λa c=> ?_
 refine Rn.vv c (λo h=>xb h (c.G 23)) λa c=> ?_;refine Rn.uc c λa c=> ?_;refine Rn.vv c (λo h=>IL (by simp[Jx]) r.1 E M h (c.G 24) (c.G 25)) λa c=> ?_;have D:=cP (cs:=mn (.sk w.heap.size 16384 d) W (Jx 16) false 0) (t:=82) E;have I:=gK (w:=q) m.heap.size (mn (.sk w.heap.size 16384 d) W (Jx 16) false 0) 82;have S:=T.keep I λb cs A l=>BZ E d_ b cs A l
 iterate 3 refine Rn.uc c λa c=> ?_
 refine Rn.vv c (λo h=>KN h (c.G 29)) λa c=> ?_;refine Rn.uc c λa c=> ?_;refine Rn.vv c (λo h=>LP r.1 (by simp[Jx]) k D h (c.G 30) (c.G 31)) λa c=> ?_;have H:=gK (w:=et q m.heap.size (mn (.sk w.heap.size 16384 d) W (Jx 16) false 0) 82) m.heap.size (mn (.sk w.heap.size 16384 d) W (kp.data.toList.map λb=>(b.toNat:Int)) false 0) 82;have R:=S.keep H λb cs A l=>BZ D d_ b cs A l
 iterate 3 refine Rn.uc c λa c=> ?_
 have x:kp.data.toList.length=16:=by rw[V4];exact k
 have p:Ex (λ_=>False) w (et (et q m.heap.size (mn (.sk w.heap.size 16384 d) W (Jx 16) false 0) 82) m.heap.size (mn (.sk w.heap.size 16384 d) W (kp.data.toList.map λb=>(b.toNat:Int)) false 0) 82):=((Ex.of_below (aE n n.size F)).trans I λb l e=>o_).trans H λb l e=>o_
 refine Rn.fj c ⟨_,rfl,m.heap.size,_,rfl,⟨r.1,_,by simpa using x,λi Q=> ?_,cP D⟩,R,⟨o_,_,_,_,rfl,TB _⟩,⟨p.os,p.tape,p.output,p.size,λb l=>p.block b l λe=>e⟩⟩;rw[List.getElem_map];have:=(kp.data.toList[i]'(by simpa using Q)).toNat_lt;omega
theorem HA(q:L.size=16384)(d:kp.size=16)(p:gW W)(m:w.rangeAt g off (W.map (Value.int .i64))):Calls lT 29 #[.s L, .slice (some ⟨g,off,none⟩) 85 cap, .s kp] w λe w'=>∃v,e= .returned v/\∃i c fl,v= .tuple #[.pk i 0, .i 0]/\w'.heap[i]?=some (.cells #[.pk c 0] 61)/\dL w' c fl W false 0/\lK w' fl L/\(w.heap.size<=c/\N3 w.heap.size fl)/\Bw w w':=by
 refine gR (t:=6) (u:=7) Lf.func29 rfl λA=> ?_;rw[aZ (N:=23) [.s L, .slice (some ⟨g,off,none⟩) 85 cap, .s kp] Lf.func29 Pd rfl];have b:=aQ [.s L, .slice (some ⟨g,off,none⟩) 85 cap, .s kp] 23 s_
 iterate 5 refine Rn.uc b λa b=> ?_
 refine Rn.cl b Lf.func41 (HE q d p m) λv k l a b=> ?_;obtain⟨c,fl,rfl,r,s,f,j⟩:=l
 iterate 7 refine Rn.uc b λa b=> ?_
 refine Rn.p rfl (Rn.cond _ (b.G 18) ?_);refine Rn.uc b λa b=> ?_;refine Rn.vv b (λo n=>NZ n (b.G 20)) λa b=> ?_;refine Rn.zz b λz a h x y b=> ?_
 iterate 2 refine Rn.uc b λa b=> ?_
 exact Rn.fj b ⟨_,rfl,k.heap.size,c,fl,rfl,x,r.ex (Ex.of_below (X:=λ_=>False) h) (λe=>e),s.keep (Ex.of_below (X:=λ_=>False) h) (λ_ _ _ _ e=>e),f,aE j j.size h⟩
end
end L1
section
open Go
@[simp] theorem Lf.func9:(aI q tP).funcs[9]?=some Tryz.f9:=aN Tryz.func9 d_ rfl rfl k_
end
section
open Go.RowKit
theorem A7(s:ByteArray):dQ [s] 1=s.data.toList:=by simp[dQ]
theorem GZ(x n:Int)(a:0<n)(b:x<0):0<= -((x+1).tmod n)/\ -((x+1).tmod n)<n:=by rw[←Int.neg_tmod,Int.tmod_eq_emod_of_nonneg o_];exact⟨ab_ _ o_,ZN _ a⟩
end
namespace L1
open Go.RowKit
theorem gh(KS:List Int)(s:ByteArray)(w:World)(i:w.rangeAt 0 0 (aH KS))(d:KS.length=64)(b:s.size<=576460752303423488):
 Calls lT 13 #[.s s] w λe w'=>e= .returned (.string ⟨(gV KS s.data.toList).toArray⟩)/\Bw w w':=by
 have g:(dQ [s] [s].length).length<=576460752303423488:=by show(dQ [s] 1).length<=_;rw[A7,V4];exact b
 have a:=By (ql:=true) KS [s] 1 (w.alloc (.cells #[.s s] 9)) w.heap.size s_ (λk h=>by
  have j:k=0:=by simpa using h
  subst j;rw[World.cell?_alloc_at _ _ _ _ rfl];rfl) (World.rangeAt_alloc i _) d g s_
 have f:Hid (Calls _ _ _ _ _):=a;clear a i g
 go_enter Lf.func13,Tryz.ntmps13
 go_wp2_with fail
 refine f.out.mono ?_;rintro e l ⟨rfl,c⟩
 go_wp2
 go_ret
 exact⟨by show Wx (.string ⟨(gV KS (dQ [s] 1)).toArray⟩)=_;rw[A7],((bR).alloc (TB _) _).trans (c.mono s_)⟩
theorem Ha(x n:Int)(w:World)(a:0<n)(c: -9223372036854775808<=x)(b:x<=9223372036854775807):
 Calls lT 9 #[.i x, .i n] w λe w'=>(∃v:Int,e= .returned (.i v)/\0<=v/\v<n)/\w'=w:=by
 go_enter Lf.func9,Tryz.ntmps9
 go_wp2
 ·go_ret
  exact⟨⟨_,rfl,GZ x n a ‹_›⟩,rfl⟩
 ·go_ret
  exact⟨⟨_,rfl,ab_ _ o_,ZN _ a⟩,rfl⟩
end L1
namespace L1
open Go.Conc Go.RowKit
section
variable{y z:Operand}
theorem HU(d:n<=100000)(a:o.op= .makeSlice 62 x y)(c:ev x= .i n)(b:ev y= .i n):(execOp ev o).run lT w= .ok (.value (.sk w.heap.size n n)) (w.alloc (.cells (TZ n (Value.int .u8 0)).toArray 5)):=by
 have h:=run_make_row' (P:=lT) 62 5 (Value.int .u8 0) 1 k_ k_ rfl .i64 .i64 n o_ o_ w;rw[fg]at h;have e:execOp ev o=(do pure (.value (←Vx 62 (.i n) (.i n)))):=by simp only[execOp,a,c,b]
 rw[e];exact nM h
theorem nO(a:o.op= .binOp .sub 3 x y t)(c:ev x= .i m)(b:ev y= .i n)(h:n<=m)(d:m<9223372036854775808):(execOp ev o).run lT w= .ok (.value (.i ((m- n:Nat):Int))) w:=by
 have e:U2.wrap ((m:Int)-(n:Int))=((m- n:Nat):Int):=by rw[TR];omega
 simp[execOp,a,c,b,go_sem,e]
theorem O1{g a cap:Nat}(b:o.op= .indexAddr 62 x y)(d:ev x= .sk g a cap)(c:ev y= .i n)(f:n<a):eX ev o w (.pk g n):=by
 have:=(eA (ql:=true) (w:=w) (t:=62) (e:=5) k_ (λw=>k_) b d c f).1
 rwa [Uu,TL]at this
end
def SR(f:Func):Code:= .seq (.seq (rG f 3) (.cond (.tmp 11) .skip (.exit 0))) (.seq (.block 1 (rG f 5)) (rG f 4))
def MH(f:Func):Code:= .seq (rG f 6) .ret
theorem RI:Tryz.f23.body=some (.seq (rG Tryz.f23 0) (.seq (rG Tryz.f23 1) (.seq (.seq (rG Tryz.f23 2) (.block 0 (.loop (SR Tryz.f23)))) (MH Tryz.f23)))):=k_
section
variable{gb v:Nat}
theorem Ns(r:n<=8)(q:w0.heap.size<=gb)
 (g:∀a w',Bw w0 w'->aW [(4, .string ⟨(cY v n).toArray⟩)] 27 [] a->Rn lT Goal ((base 23).atR a [.code .ret]) cs w'):
 ∀(m i:Nat) (a:Act) (w:World),n- i=m->i<=n->Bw w0 w->w.heap[gb]?=some (.cells (uC v n i).toArray 5)->aW [(0, .i v),(1, .i n),(5, .sk gb n n),(6, .i i)] 27 [] a->Rn lT Goal ((base 23).atR a [.code (SR Tryz.f23), .inLoop (SR Tryz.f23), .inBlock 0, .code (MH Tryz.f23)]) cs w:=by
 intro m;induction m with
 |zero=>
  intro i a w k f e d b;obtain rfl:i=n:=o_
  rw[Nu]at d
  iterate 3 refine Rn.uc b λa b=> ?_
  refine Rn.p rfl (Rn.cond _ (b.G 11) ?_);rw[decide_eq_false o_];have l:=db i v;refine Rn.uc b λa b=> ?_;rw[show Value.sk gb i i= .sk gb (cY v i).length i from by rw[l]]at b;refine Rn.vv b (λo c=>wW c (b.G 25) λj p=> ?_) λa b=> ?_
  ·rw[aG d];simp[bH,p]
  refine Rn.uc b λa b=> ?_;exact Rn.p rfl (g _ _ e (b.only ⟨rfl,trivial⟩))
 |succ m h=>
  intro i a w k f e d b
  iterate 3 refine Rn.uc b λa b=> ?_
  refine Rn.p rfl (Rn.cond _ (b.G 11) ?_);rw[decide_eq_true o_]
  iterate 4 refine Rn.uc b λa b=> ?_
  refine Rn.vv b (λo c=>nO (n:=1) c (b.G 17) rfl o_ o_) λa b=> ?_;refine Rn.uc b λa b=> ?_;refine Rn.vv b (λo c=>nO c (b.G 18) (b.G 19) o_ o_) λa b=> ?_;refine Rn.vv b (λo c=>jW (m:=8) c rfl (b.G 20) o_) λa b=> ?_;refine Rn.vv b (λo c=>wY c (b.G 16) (b.G 21) o_) λa b=> ?_;refine Rn.vv b (λo c=>yI c (b.G 22)) λa b=> ?_;refine Rn.vv b (λo c=>O1 c (b.G 14) (b.G 15) o_) λa b=> ?_;refine Rn.nn b (λo c=>gj rfl rfl k_ c (b.G 24) (b.G 23) d (by rw[List.size_toArray,Ek v n i f];omega)) λa b=> ?_;rw[List.setIfInBounds_toArray,Nt v n i o_ _ (by rw[IntKind.wrap_u8];exact QL v n i)]
  iterate 1 refine Rn.uc b λa b=> ?_
  refine Rn.vv b (λo c=>dh (n:=1) c (b.G 12) rfl o_) λa b=> ?_;refine Rn.uc b λa b=> ?_;exact Rn.p rfl (Rn.p rfl (h (i+1) _ _ o_ o_ (e.trans (dA q)) (cP d) (b.only ⟨rfl,rfl,rfl,rfl,trivial⟩)))
theorem eG(v n:Nat)(g:n<=8)(w:World):Calls (aI true tP) 23 #[.int .i64 v, .int .i64 n] w λe w'=>e= .returned (.string ⟨(cY v n).toArray⟩)/\Bw w w':=by
 refine bI (t:=4) Lf.func23 rfl λl=> ?_;rw[aZ (N:=27) [.int .i64 v, .int .i64 n] Lf.func23 RI rfl];have b:=aQ [.int .i64 v, .int .i64 n] 27 s_
 iterate 2 refine Rn.uc b λa b=> ?_
 refine Rn.al b (λo f=>HU o_ f (b.get (d:=7) rfl) (b.get (d:=7) rfl)) λc a j i k b=> ?_
 iterate 2 refine Rn.uc b λa b=> ?_
 exact Rn.p rfl (Rn.p rfl (Rn.p rfl (Ns g (TB _) (λa w' h b=>Rn.fi b ⟨rfl,h⟩) n 0 _ c rfl o_ j (by rw[Gn];exact i) (b.only ⟨rfl,rfl,rfl,rfl,trivial⟩))))
end
def zeB(n:Nat):ByteArray:=⟨(TZ n (0:UInt8)).toArray⟩
theorem M1:Tryz.f26.body=some (.seq (rG Tryz.f26 0) (.seq (rG Tryz.f26 1) .ret)):=k_
theorem rB(w:World):Calls lT 26 #[] w λe w'=>e= .returned (.s (zeB 8192))/\Bw w w':=by
 refine bI (t:=0) Lf.func26 rfl λm=> ?_;rw[aZ (N:=3) [] Lf.func26 M1 rfl];have b:=aQ [] 3 s_;refine Rn.uc b λa b=> ?_;refine Rn.al b (λo c=>HU (n:=8192) o_ c rfl rfl) λl a i h k b=> ?_;have f:(TZ 8192 (0:UInt8)).length=8192:=Zf;rw[show Value.sk w.heap.size 8192 8192= .sk w.heap.size (TZ 8192 (0:UInt8)).length 8192 from by rw[f]]at b;refine Rn.vv b (λo c=>wW c (b.G 1) λj g=> ?_) λa b=> ?_
 ·rw[aG h];have d:j<8192:=by rw[←f];exact g
  rw[X3,WM,if_pos d,Z1];rfl
 refine Rn.uc b λa b=> ?_;exact Rn.fi b ⟨rfl,i⟩
end L1
section
open Go.Conc Go.RowKit
def gz(id seed:ByteArray)(nb:Nat):Array Value:=#[.string id, .string seed, .sk nb 8 8]
def IZ:ByteArray:=⟨#[98,101,103,105,110]⟩
theorem FW:IZ.size=5:=rfl
def fT(KS:List Int)(b:ByteArray):ByteArray:=⟨(gV KS b.data.toList).toArray⟩
theorem cm(KS:List Int)(b:ByteArray):(fT KS b).size=32:=by show(gV KS b.data.toList).toArray.size=32;simp[gV]
def B8(KS:List Int)(id seed:ByteArray)(q i:Nat):ByteArray:=fT KS (id++ob q 4++ob i 2++IZ++seed)
def Ge(KS:List Int)(pre:ByteArray):Nat->Nat->ByteArray->ByteArray
 |0,_,y=>y
 |n+1,j,y=>Ge KS pre n (j+1) (fT KS (pre++ob j 1++y))
theorem nj(KS:List Int)(a:ByteArray):∀(n j:Nat) (y:ByteArray),y.size=32->(Ge KS a n j y).size=32
 |0,_,_,h=>h
 |n+1,j,_,_=>nj KS a n (j+1) _ (cm _ _)
end
namespace L1
open Go.Conc Go.RowKit
section
variable{y z:Operand}
theorem fU(j:Nat)(f:j<3)(a:o.op= .fieldAddr 27 x j)(c:ev x= .pk b 0):(execOp ev o).run lT w= .ok (.value (.pk b j)) w:=by
 have e:execOp ev o=(do pure (.value (←TS 27 (.pk b 0) j))):=by simp only[execOp,a,c]
 have d:(do pure (.value (←TS 27 (.pk b 0) j)):Sem Next).run lT w= .ok (.value (.pk b j)) w:=by rcases(o_:j=0\/j=1\/j=2)with rfl|rfl|rfl<;>kernel_rfl
 rw[e,d]
theorem fe{id seed:ByteArray}{d:Nat}{e:TypeId}(a:o.op= .load 27 x)(f:ev x= .pk b 0)(c:w.heap[b]?=some (.cells (gz id seed d) e)):(execOp ev o).run lT w= .ok (.value (.agg (gz id seed d))) w:=by
 have g:(isAgg 27).run lT w= .ok true w:=k_
 have c:=aG c;simp[execOp,a,f,TN,loadVar,g,loadCells,loadCellsFrom,Addr.add,c,gz,go_sem]
theorem tC(f:m<256)(a:o.op= .convert 5 3 x)(b:ev x= .int .u8 m):(execOp ev o).run lT w= .ok (.value (.i m)) w:=by
 have d:lT.underlying 5=some (.int .u8):=k_
 have c:lT.underlying 3=some (.int .i64):=k_
 have e:U2.wrap (m:Int)=m:=by rw[TR];omega
 simp[execOp,a,b,go_sem,d,c,e]
end
theorem LZ:Tryz.f25.body=some (.seq (rG Tryz.f25 0) (.seq (rD Tryz.f25 1) .ret)):=k_
theorem Pf:Tryz.f14.body=some (.seq (rG Tryz.f14 0) (.seq (rD Tryz.f14 1) .ret)):=k_
section
variable{id seed:ByteArray}{nb:Nat}
theorem vi(f:KS.length=64)(j:id.size=16)(d:seed.size<=140737488355328)(q i:Nat)(k:w.rangeAt 0 0 (aH KS))(l:0<w.heap.size):Calls lT 25 #[.agg (gz id seed nb), .i q, .i i] w λe w'=>e= .returned (.s (B8 KS id seed q i))/\Bw w w':=by
 refine bI (t:=6) Lf.func25 rfl λr=> ?_;rw[aZ (N:=20) [.agg (gz id seed nb), .i q, .i i] Lf.func25 LZ rfl];have b:=aQ [.agg (gz id seed nb), .i q, .i i] 20 s_;refine Rn.zz b λp a c g n b=> ?_;refine Rn.uc b λa b=> ?_;have b:aW [(1, .i q),(2, .i i),(3, .pt w.heap.size)] 20 [] a:=b.only ⟨rfl,rfl,rfl,trivial⟩;have h:=FW;refine Rn.p rfl (Rn.p rfl ?_);refine Rn.tabL b [(7, .pt w.heap.size),(8, .s id),(9, .i q),(10, .s (ob q 4)),(11, .s (id++ob q 4)),(12, .i i),(13, .s (ob i 2)),(14, .s (id++ob q 4++ob i 2)),(15, .s (id++ob q 4++ob i 2++IZ)),(16, .pk w.heap.size 1),(17, .s seed),(18, .s (id++ob q 4++ob i 2++IZ++seed)),(19, .s (B8 KS id seed q i)),(6, .s (B8 KS id seed q i))] [9,12,6] [(6, .s (B8 KS id seed q i))]
  ⟨λz=>dv (fU 0 d_ z.qq (z.k 3)),
   λz=>dv (aO bN z.qq (z.k 7) ((aG (bk z.b g) 0).trans rfl)).1,
   λz=>z.c2 (z.k 9) kc (eG q 4 o_ _),
   λz=>dv (bK z.qq (z.k 8) (z.k 10) (by first|(simp only[aM];omega)|(simp only[AS,aM];omega))),
   λz=>z.c2 (z.k 12) kc (eG i 2 o_ _),
   λz=>dv (bK z.qq (z.k 11) (z.k 13) (by first|(simp only[aM];omega)|(simp only[AS,aM];omega))),
   λz=>dv (bK z.qq (z.k 14) kc (by simp only[AS,aM];show _+IZ.size<=_;omega)),
   λz=>dv (fU 1 d_ z.qq (z.k 3)),
   λz=>dv (aO bN z.qq (z.k 16) ((aG (bk z.b g) 1).trans rfl)).1,
   λz=>dv (bK z.qq (z.k 15) (z.k 17) (by simp only[AS,aM];omega)),
   λz=>z.c1 (z.k 18) (gh KS _ _ (Ti l (aE c c.size z.b) k) f (by simp only[AS,aM];omega)),
   trivial⟩ λa o m b=> ?_
 exact Rn.fi b ⟨rfl,aE c c.size m⟩
def yc(id rt:ByteArray):ByteArray:=ob 226 4++ob 2 4++id++rt
theorem xo(i:id.size=16){N:List ByteArray}{rt:ByteArray}(j:w.heap[nb]?=some (.cells (N.map Value.string).toArray 9))(k:N[1]?=some rt)(h:rt.size=32):Calls lT 14 #[.agg (gz id seed nb)] w λe w'=>e= .returned (.s (yc id rt))/\Bw w w':=by
 refine bI (t:=2) Lf.func14 rfl λq=> ?_;rw[aZ (N:=14) [.agg (gz id seed nb)] Lf.func14 Pf rfl];have b:=aQ [.agg (gz id seed nb)] 14 s_;refine Rn.zz b λp a f g m b=> ?_;refine Rn.uc b λa b=> ?_;have b:aW [(1, .pt w.heap.size)] 14 [] a:=b.only ⟨rfl,trivial⟩;have d:=bk f j;have c:((N.map Value.string).toArray)[1]?=some (.s rt):=by simp[k]
 refine Rn.p rfl (Rn.p rfl ?_);refine Rn.tabL b [(3, .s (ob 226 4)),(4, .s (ob 2 4)),(5, .s (ob 226 4++ob 2 4)),(6, .pt w.heap.size),(7, .s id),(8, .s (ob 226 4++ob 2 4++id)),(9, .pk w.heap.size 2),(10, .sk nb 8 8),(11, .pk nb 1),(12, .s rt),(13, .s (yc id rt)),(2, .s (yc id rt))] [2] [(2, .s (yc id rt))]
  ⟨λz=>z.c2 kc kc (eG 226 4 o_ _),
   λz=>z.c2 kc kc (eG 2 4 o_ _),
   λz=>dv (bK z.qq (z.k 3) (z.k 4) (by first|(simp only[aM];omega)|(simp only[AS,aM];omega))),
   λz=>dv (fU 0 d_ z.qq (z.k 1)),
   λz=>dv (aO bN z.qq (z.k 6) ((aG (bk z.b g) 0).trans rfl)).1,
   λz=>dv (bK z.qq (z.k 5) (z.k 7) (by first|(simp only[aM];omega)|(simp only[AS,aM];omega))),
   λz=>dv (fU 2 d_ z.qq (z.k 1)),
   λz=>dv (aO ff z.qq (z.k 9) ((aG (bk z.b g) 2).trans rfl)).1,
   λz=>Qv (eA (ql:=true) (t:=25) (e:=9) (n:=1) k_ (λw=>k_) z.qq (z.k 10) rfl o_).1 (by rw[Uu,TL]),
   λz=>dv (aO bN z.qq (z.k 11) ((aG (bk z.b d) 1).trans c)).1,
   λz=>dv (bK z.qq (z.k 8) (z.k 12) (by first|(simp only[aM];omega)|(simp only[AS,aM];omega))),
   trivial⟩ λa o l b=> ?_
 exact Rn.fi b ⟨rfl,aE f f.size l⟩
end
theorem Po:Tryz.f54.body=some (.seq (rG Tryz.f54 0) (.seq (rG Tryz.f54 1) .ret)):=k_
theorem vZ(b:ByteArray)(i:Nat)(g:i/4<b.size)(h:i<100000)(w:World):Calls lT 54 #[.s b, .i i] w λe w'=>e= .returned (.i ((dK b.data.toList 2 i:Nat):Int))/\w'=w:=by
 refine bI (t:=4) Lf.func54 rfl λq=> ?_;rw[aZ (N:=16) [.s b, .i i] Lf.func54 Po rfl];have c:=aQ [.s b, .i i] 16 s_
 iterate 3 refine Rn.uc c λa c=> ?_
 refine Rn.vv c (λo d=>CU (n:=4) d (c.G 6) rfl o_ o_) λa c=> ?_;refine Rn.vv c (λo d=>pw d (c.G 5) (c.G 7) g) λa c=> ?_;have f:=(b[i/4]).toNat_lt;refine Rn.vv c (λo d=>tC f d (c.G 8)) λa c=> ?_;refine Rn.uc c λa c=> ?_;refine Rn.vv c (λo d=>CS (n:=4) d (c.G 10) rfl o_) λa c=> ?_;refine Rn.vv c (λo d=>jW (n:=2) d (c.G 11) rfl o_) λa c=> ?_;refine Rn.vv c (λo d=>nO (m:=6) d rfl (c.G 12) o_ o_) λa c=> ?_;refine Rn.vv c (λo d=>wY d (c.G 9) (c.G 13) o_) λa c=> ?_;refine Rn.vv c (λo d=>ku d (c.G 14) rfl) λa c=> ?_;refine Rn.uc c λa c=> ?_;refine Rn.fi c ⟨?_,rfl⟩;have l:((b[i/4].toNat:Nat):Int)/2^(6- i%4*2)=((b[i/4].toNat/2^(6- i%4*2):Nat):Int):=by rw[W0,UY];rfl
 have p:b[i/4].toNat/2^(6- i%4*2)<256:=Wo (Y8 _ _) f;have k:=Tl (b[i/4].toNat/2^(6- i%4*2)) 3 o_ o_;rw[l,show(3:Int)=((3:Nat):Int)from rfl,k,dK];have j:b.data.toList.getD (i/(8/2)) 0=b[i/4]:=by rw[show 8/2=4 from rfl,TV,VG,TH (by exact g)];rfl
 rw[j,Nat.and_two_pow_sub_one_eq_mod _ 2]
def SU(f:Func):Code:= .seq (.seq (rG f 3) (.cond (.tmp 26) .skip (.exit 0))) (.seq (.block 1 (rG f 5)) (rG f 4))
def MI(f:Func):Code:= .seq (rG f 6) .ret
theorem P6:Tryz.f24.body=some (.seq (rG Tryz.f24 0) (.seq (rD Tryz.f24 1) (.seq (.seq (rG Tryz.f24 2) (.block 0 (.loop (SU Tryz.f24)))) (MI Tryz.f24)))):=k_
section
variable{pre Y:ByteArray}{tp:Nat}
theorem Hs(f:KS.length=64)(z:pre.size=22)(t:w0.rangeAt 0 0 (aH KS))(u:0<w0.heap.size)(q:tp<=3)
 (k:∀a w',Bw w0 w'->aW [(12, .s Y)] 37 [] a->Rn lT Goal ((base 24).atR a [.code .ret]) cs w'):
 ∀(m j:Nat) (y:ByteArray) (a:Act) (w:World),tp- j=m->j<=tp->y.size=32->Ge KS pre m j y=Y->Bw w0 w->aW [(4, .i tp),(5, .s y),(13, .s pre),(14, .i j)] 37 [] a->Rn lT Goal ((base 24).atR a [.code (SU Tryz.f24), .inLoop (SU Tryz.f24), .inBlock 0, .code (MI Tryz.f24)]) cs w:=by
 intro m;induction m with
 |zero=>
  intro j y a w r s p e d b;obtain rfl:y=Y:=e
  iterate 3 refine Rn.uc b λa b=> ?_
  refine Rn.p rfl (Rn.cond _ (b.G 26) ?_);rw[decide_eq_false o_]
  iterate 2 refine Rn.uc b λa b=> ?_
  exact Rn.p rfl (k _ _ d (b.only ⟨rfl,trivial⟩))
 |succ m l=>
  intro j y a w r s p e d b
  iterate 3 refine Rn.uc b λa b=> ?_
  refine Rn.p rfl (Rn.cond _ (b.G 26) ?_);rw[decide_eq_true o_]
  iterate 2 refine Rn.uc b λa b=> ?_
  refine Rn.cw b Lf.func23 (eG j 1 o_ w) λi x a b=> ?_;have b:aW [(4, .i tp),(5, .s y),(13, .s pre),(14, .i j),(29, .s pre),(31, .s (ob j 1))] 37 [] a:=b.only ⟨rfl,rfl,rfl,rfl,rfl,rfl,trivial⟩;refine Rn.vv b (λo c=>bK c (b.G 29) (b.G 31) (by first|(simp only[aM];omega)|(simp only[AS,aM];omega))) λa b=> ?_;refine Rn.uc b λa b=> ?_;refine Rn.vv b (λo c=>bK c (b.G 32) (b.G 33) (by first|(simp only[aM];omega)|(simp only[AS,aM];omega))) λa b=> ?_;have g:=aE d d.size x;refine Rn.cw b Lf.func13 (gh KS (pre++ob j 1++y) i (Ti u g t) f (by first|(simp only[aM];omega)|(simp only[AS,aM];omega))) λh v a b=> ?_
  iterate 2 refine Rn.uc b λa b=> ?_
  refine Rn.vv b (λo c=>dh (n:=1) c (b.G 27) rfl o_) λa b=> ?_;refine Rn.uc b λa b=> ?_;exact Rn.p rfl (Rn.p rfl (l (j+1) (fT KS (pre++ob j 1++y)) _ h o_ o_ (cm _ _) e (aE g g.size v) (b.only ⟨rfl,rfl,rfl,rfl,trivial⟩)))
theorem Di(g:KS.length=64){id seed:ByteArray}{d:Nat}(l:id.size=16)(q i c:Nat)(f:c<=3)(y:ByteArray)(k:y.size=32)(n:w.rangeAt 0 0 (aH KS))(o:0<w.heap.size):Calls lT 24 #[.agg (gz id seed d), .i q, .i i, .i 0, .i c, .s y] w λe w'=>e= .returned (.s (Ge KS (id++ob q 4++ob i 2) c 0 y))/\Bw w w':=by
 refine bI (t:=12) Lf.func24 rfl λv=> ?_;rw[aZ (N:=37) [.agg (gz id seed d), .i q, .i i, .i 0, .i c, .s y] Lf.func24 P6 rfl];have b:=aQ [.agg (gz id seed d), .i q, .i i, .i 0, .i c, .s y] 37 s_;refine Rn.zz b λu a h p s b=> ?_;refine Rn.uc b λa b=> ?_;have b:aW [(1, .i q),(2, .i i),(3, .i 0),(4, .i c),(5, .s y),(6, .pt w.heap.size)] 37 [] a:=b.only ⟨rfl,rfl,rfl,rfl,rfl,rfl,trivial⟩;refine Rn.p rfl (Rn.p rfl ?_);refine Rn.tabL b [(15, .pt w.heap.size),(16, .s id),(17, .i q),(18, .s (ob q 4)),(19, .s (id++ob q 4)),(20, .i i),(21, .s (ob i 2)),(22, .s (id++ob q 4++ob i 2)),(13, .s (id++ob q 4++ob i 2))] [17,20,13] [(13, .s (id++ob q 4++ob i 2))]
  ⟨λz=>dv (fU 0 d_ z.qq (z.k 6)),
   λz=>dv (aO bN z.qq (z.k 15) ((aG (bk z.b p) 0).trans rfl)).1,
   λz=>z.c2 (z.k 17) kc (eG q 4 o_ _),
   λz=>dv (bK z.qq (z.k 16) (z.k 18) (by first|(simp only[aM];omega)|(simp only[AS,aM];omega))),
   λz=>z.c2 (z.k 20) kc (eG i 2 o_ _),
   λz=>dv (bK z.qq (z.k 19) (z.k 21) (by first|(simp only[aM];omega)|(simp only[AS,aM];omega))),
   trivial⟩ λa j r b=> ?_
 iterate 2 refine Rn.uc b λa b=> ?_
 exact Rn.p rfl (Rn.p rfl (Rn.p rfl (Hs g (by simp only[AS,aM];omega) n o f (λa w' m b=>Rn.fi b ⟨rfl,m⟩) c 0 y _ j o_ o_ k rfl (aE h h.size r) (b.only ⟨rfl,rfl,rfl,rfl,trivial⟩))))
end
end L1
section
open Go.Conc Go.RowKit
section
variable(KS:List Int)(id seed:ByteArray)
def j4(q:Nat):Nat->ByteArray
 |0=>⟨#[]⟩
 |n+1=>j4 q n++Ge KS (id++ob q 4++ob n 2) 3 0 (B8 KS id seed q n)
theorem kR(q i:Nat):(B8 KS id seed q i).size=32:=cm _ _
theorem oV(q:Nat):∀n,(j4 KS id seed q n).size=32*n
 |0=>rfl
 |n+1=>by rw[j4,AS,oV q n,nj _ _ _ _ _ (kR KS id seed q n)];omega
def Gd:ByteArray:=⟨#[128,128]⟩
def Ri:ByteArray:=⟨#[130,130]⟩
def Qp:ByteArray:=⟨#[131,131]⟩
def pN:ByteArray:=⟨#[108,101,97,102]⟩
def vO(q:Nat):ByteArray:=fT KS (id++ob (4+q) 4++Ri++fT KS (id++ob q 4++Gd++j4 KS id seed q 133))
def ng(used q:Nat):ByteArray:=if used/2^q%2=1 then vO KS id seed q else fT KS (pN++ob q 1++seed)
theorem g6(used q:Nat):(ng KS id seed used q).size=32:=by unfold ng vO;split<;>exact cm _ _
end
structure Gw (w0:World) (b4 sb nb:Nat) (id seed:ByteArray) (NL:List ByteArray) (w:World):Prop where
 old:Bw w0 w
 res:∃c:Array Value,c.size=3/\w.heap[b4]?=some (.cells c 27)
 sec:w.heap[sb]?=some (.cells (gz id seed nb) 27)
 nod:w.heap[nb]?=some (.cells (NL.map Value.string).toArray 9)
 lo:w0.heap.size<=b4/\w0.heap.size<=sb/\w0.heap.size<=nb
 ne:b4≠sb
section
variable{sb nb:Nat}{id seed:ByteArray}{NL:List ByteArray}
theorem Gw.below(h:Gw w0 b4 sb nb id seed NL w)(a:Bw w w'):Gw w0 b4 sb nb id seed NL w':=
 ⟨aE h.old h.old.size a,let ⟨c,e,hc⟩:=h.res;⟨c,e,bk a hc⟩,bk a h.sec,bk a h.nod,h.lo,h.ne⟩
theorem Gw.set(h:Gw w0 b4 sb nb id seed NL w)(a:List ByteArray):Gw w0 b4 sb nb id seed a (et w nb (a.map Value.string).toArray 9):=
 ⟨h.old.trans (dA h.lo.2.2),let ⟨c,e,hc⟩:=h.res;⟨c,e,(bX (cC hc h.nod d_)).trans hc⟩,(bX (cC h.sec h.nod d_)).trans h.sec,cP h.nod,h.lo,h.ne⟩
end
end
namespace L1
open Go.Conc Go.RowKit
def SV(f:Func):Code:= .seq (.seq (rG f 13) (.cond (.tmp 47) .skip (.exit 2))) (.seq (.block 3 (.seq (rD f 15) (rG f 16))) (rG f 14))
section
variable{id seed:ByteArray}{sb nb q used:Nat}{NL:List ByteArray}
theorem BU(f:KS.length=64)(e:id.size=16)(d:seed.size<=140737488355328)(v:w0.rangeAt 0 0 (aH KS))(k:0<w0.heap.size)
 (p:∀a w',Gw w0 b4 sb nb id seed NL w'->aW [(0, .s seed),(1, .i used),(4, .pt b4),(6, .pt sb),(7, .i q),(8, .s (j4 KS id seed q 133))] 116 [] a->Rn lT Goal ((base 10).atR a K) cs w'):
 ∀(m i:Nat) (a:Act) (w:World),133- i=m->i<=133->Gw w0 b4 sb nb id seed NL w->aW [(0, .s seed),(1, .i used),(4, .pt b4),(6, .pt sb),(7, .i q),(8, .s (j4 KS id seed q i)),(9, .i i)] 116 [] a->Rn lT Goal ((base 10).atR a (.code (SV Tryz.f10):: .inLoop (SV Tryz.f10):: .inBlock 2::K)) cs w:=by
 intro m;induction m with
 |zero=>
  intro i a w t u c b;obtain rfl:i=133:=o_
  iterate 2 refine Rn.uc b λa b=> ?_
  refine Rn.p rfl (Rn.cond _ (b.G 47) ?_);rw[decide_eq_false o_];exact Rn.p rfl (p _ _ c (b.only ⟨rfl,rfl,rfl,rfl,rfl,rfl,trivial⟩))
 |succ m r=>
  intro i a w t u c b
  iterate 2 refine Rn.uc b λa b=> ?_
  refine Rn.p rfl (Rn.cond _ (b.G 47) ?_);rw[decide_eq_true o_];have b:aW [(0, .s seed),(1, .i used),(4, .pt b4),(6, .pt sb),(7, .i q),(8, .s (j4 KS id seed q i)),(9, .i i)] 116 [] a:=b.only ⟨rfl,rfl,rfl,rfl,rfl,rfl,rfl,trivial⟩;have g:∀{w':World},Bw w w'->w'.rangeAt 0 0 (aH KS)/\0<w'.heap.size:=λj=>⟨Ti k (aE c.old c.old.size j) v,TC k (aE c.old c.old.size j).size⟩;refine Rn.runs 4 _ ?_;refine Rn.tabL b [(50, .agg (gz id seed nb)),(51, .i q),(52, .i i),(53, .agg (gz id seed nb)),(54, .i q),(55, .i i),(56, .s (B8 KS id seed q i)),(57, .s (Ge KS (id++ob q 4++ob i 2) 3 0 (B8 KS id seed q i))),(10, .s (Ge KS (id++ob q 4++ob i 2) 3 0 (B8 KS id seed q i)))] [51,52,54,55,10] [(10, .s (Ge KS (id++ob q 4++ob i 2) 3 0 (B8 KS id seed q i)))]
   ⟨λz=>dv (fe z.qq (z.k 6) (bk z.b c.sec)),
    λz=>dv (fe z.qq (z.k 6) (bk z.b c.sec)),
    λz=>z.c3 (z.k 53) (z.k 54) (z.k 55) (vi f e d q i (g z.b).1 (g z.b).2),
    λz=>z.c6 (z.k 50) (z.k 51) (z.k 52) kc kc (z.k 56) (Di f e q i 3 o_ _ (kR _ _ _ _ _) (g z.b).1 (g z.b).2),
    trivial⟩ λa l x b=> ?_
  have y:=oV KS id seed q i;have s:=nj KS (id++ob q 4++ob i 2) 3 0 _ (kR KS id seed q i)
  iterate 2 refine Rn.uc b λa b=> ?_
  refine Rn.vv b (λo h=>bK h (b.G 58) (b.G 59) o_) λa b=> ?_
  iterate 2 refine Rn.uc b λa b=> ?_
  refine Rn.vv b (λo h=>dh (n:=1) h (b.G 48) rfl o_) λa b=> ?_;refine Rn.uc b λa b=> ?_;exact Rn.p rfl (Rn.p rfl (r (i+1) _ l o_ o_ (c.below x) (b.only ⟨rfl,rfl,rfl,rfl,rfl,rfl,rfl,trivial⟩)))
end
end L1
section
open Go.Conc Go.RowKit
def Gb(KS:List Int)(id seed:ByteArray)(used q:Nat):List ByteArray:=(U5 8).map λn=>if 4<=n/\n<4+q then ng KS id seed used (n- 4)else⟨#[]⟩
theorem Dp(KS:List Int)(id seed:ByteArray)(used:Nat){q:Nat}(a:q<4):(Gb KS id seed used q).set (4+q) (ng KS id seed used q)=Gb KS id seed used (q+1):=by rcases(o_:q=0\/q=1\/q=2\/q=3)with rfl|rfl|rfl|rfl<;>rfl
theorem BA(KS:List Int)(id seed:ByteArray)(used q:Nat):(Gb KS id seed used q).length=8:=by simp[Gb]
end
namespace L1
open Go.Conc Go.RowKit
theorem qs{y:Operand}{c a cap:Nat}(b:o.op= .indexAddr 25 x y)(f:ev x= .sk c a cap)(d:ev y= .i n)(g:n<a):eX ev o w (.pk c n):=by
 have:=(eA (ql:=true) (w:=w) (t:=25) (e:=9) k_ (λw=>k_) b f d g).1
 rwa [Uu,TL]at this
theorem NH(L:List ByteArray)(k:Nat)(x:ByteArray):(L.map Value.string).toArray.setIfInBounds k (.s x)=((L.set k x).map Value.string).toArray:=by rw[List.map_set];simp
def Qr(f:Func):Code:= .seq (.seq (rG f 7) (.cond (.tmp 27) .skip (.exit 0))) (.seq (.block 1 (.seq (rD f 9) (.seq (.seq (rG f 10) (.cond (.tmp 45) (.exit 1) .skip)) (.seq (rG f 11) (.seq (.seq (rG f 12) (.block 2 (.loop (SV f)))) (.seq (rD f 17) (rD f 18))))))) (rG f 8))
section
variable{id seed:ByteArray}{sb nb used:Nat}
theorem jX(g:KS.length=64)(A:id.size=16)(l:seed.size<=140737488355328)(j:used<16)(F:w0.rangeAt 0 0 (aH KS))(G:0<w0.heap.size){q:Nat}(E:q<4)(r:Gw w0 b4 sb nb id seed (Gb KS id seed used q) w)(b:aW [(0, .s seed),(1, .i used),(4, .pt b4),(6, .pt sb),(7, .i q)] 116 [] a)
 (I:∀a w',Gw w0 b4 sb nb id seed (Gb KS id seed used (q+1)) w'->aW [(0, .s seed),(1, .i used),(4, .pt b4),(6, .pt sb),(7, .i ((q+1:Nat):Int))] 116 [] a->Rn lT Goal ((base 10).atR a (.code (Qr Tryz.f10):: .inLoop (Qr Tryz.f10):: .inBlock 0::K)) cs w'):
 Rn lT Goal ((base 10).atR a (.code (Qr Tryz.f10):: .inLoop (Qr Tryz.f10):: .inBlock 0::K)) cs w:=by
 have y:∀{w':World},Bw w0 w'->w'.rangeAt 0 0 (aH KS):=λu=>Ti G u F;have i:∀{a:Act} {w':World} {k:List Item},Gw w0 b4 sb nb id seed (Gb KS id seed used (q+1)) w'->aW [(0, .s seed),(1, .i used),(4, .pt b4),(6, .pt sb),(7, .i q)] 116 [] a->Rn lT Goal ((base 10).atR a (.code (rG Tryz.f10 8):: .inLoop (Qr Tryz.f10):: .inBlock 0::K)) cs w':=λ{a w' k} r b=>by refine Rn.uc b λa b=> ?_;refine Rn.vv b (λo f=>dh (n:=1) f (b.G 28) rfl o_) λa b=> ?_;refine Rn.uc b λa b=> ?_;exact Rn.p rfl (Rn.p rfl (I _ _ r (b.only ⟨rfl,rfl,rfl,rfl,rfl,trivial⟩)))
 iterate 2 refine Rn.uc b λa b=> ?_
 refine Rn.p rfl (Rn.cond _ (b.G 27) ?_);rw[decide_eq_true o_];have b:aW [(0, .s seed),(1, .i used),(4, .pt b4),(6, .pt sb),(7, .i q)] 116 [] a:=b.only ⟨rfl,rfl,rfl,rfl,rfl,trivial⟩;have t:=BA KS id seed used q;have V:pN.size=4:=rfl;refine Rn.runs 4 _ ?_;refine Rn.tab1 (R:=λa w'=>Gw w0 b4 sb nb id seed ((Gb KS id seed used q).set (4+q) (fT KS (pN++ob q 1++seed))) w'/\aW [(0, .s seed),(1, .i used),(4, .pt b4),(6, .pt sb),(7, .i q)] 116 [] a) (λa H ⟨x,b⟩=> ?_) b
  [(30, .pk sb 2),(31, .sk nb 8 8),(32, .i q),(33, .i ((4+q:Nat):Int)),(34, .i q),(35, .s (ob q 1)),(36, .s (pN++ob q 1)),(37, .s seed),(38, .s (pN++ob q 1++seed)),(39, .s (fT KS (pN++ob q 1++seed))),(40, .pk nb (4+q))] [32,34,37] [(39, .s (fT KS (pN++ob q 1++seed))),(40, .pk nb (4+q))]
  ⟨λz=>dv (fU 2 d_ z.qq (z.k 6)),
   λz=>dv (aO ff z.qq (z.k 30) ((aG (bk z.b r.sec) 2).trans rfl)).1,
   λz=>dv (dh (m:=4) z.qq kc (z.k 32) o_),
   λz=>z.c2 (z.k 34) kc (eG q 1 o_ _),
   λz=>dv (bK z.qq kc (z.k 35) (by simp only[aM];show pN.size+_<=_;omega)),
   λz=>dv (bK z.qq (z.k 36) (z.k 37) (by simp only[AS,aM];omega)),
   λz=>z.c1 (z.k 38) (gh KS _ _ (y (aE r.old r.old.size z.b)) g (by simp only[AS,aM];omega)),
   λz=>dv (qs z.qq (z.k 31) (z.k 33) o_),
   trivial⟩ (λa w' s u b p=> ?_)
 ·iterate 2 refine Rn.uc b λa b=> ?_
  refine Rn.vv b (λo f=>wY f (b.G 41) (b.G 42) o_) λa b=> ?_;refine Rn.vv b (λo f=>ku f (b.G 43) rfl) λa b=> ?_;have P:((used:Nat):Int)/2^q=((used/2^q:Nat):Int):=by rw[W0,UY];rfl
  have W:used/2^q<16:=Wo (Y8 _ _) j;have O:=Tl (used/2^q) 1 o_ o_;rw[P,show(1:Int)=((1:Nat):Int)from rfl,O,Nat.and_one_is_mod]at b;refine Rn.uc b λa b=> ?_;refine Rn.p rfl (Rn.cond _ (b.G 45) ?_);by_cases c:used/2^q%2=1
  ·rw[c];have D:ng KS id seed used q=vO KS id seed q:=if_pos c;have b:aW [(0, .s seed),(1, .i used),(4, .pt b4),(6, .pt sb),(7, .i q)] 116 [] a:=b.only ⟨rfl,rfl,rfl,rfl,rfl,trivial⟩
   iterate 2 refine Rn.uc b λa b=> ?_
   refine Rn.runs 3 _ ?_;refine BU g A l F G (λa U h b=> ?_) 133 0 _ H rfl o_ x (b.only ⟨rfl,rfl,rfl,rfl,rfl,rfl,rfl,trivial⟩);have N:=oV KS id seed q 133;have L:Gd.size=2:=rfl;have J:Ri.size=2:=rfl;refine Rn.runs 2 _ ?_;refine Rn.tabL b [(61, .pt sb),(62, .s id),(63, .i q),(64, .s (ob q 4)),(65, .s (id++ob q 4)),(66, .s (id++ob q 4++Gd)),(67, .s (j4 KS id seed q 133)),(68, .s (id++ob q 4++Gd++j4 KS id seed q 133)),(69, .s (fT KS (id++ob q 4++Gd++j4 KS id seed q 133))),(11, .s (fT KS (id++ob q 4++Gd++j4 KS id seed q 133)))] [63,67,11] [(11, .s (fT KS (id++ob q 4++Gd++j4 KS id seed q 133)))]
    ⟨λz=>dv (fU 0 d_ z.qq (z.k 6)),
     λz=>dv (aO bN z.qq (z.k 61) ((aG (bk z.b h.sec) 0).trans rfl)).1,
     λz=>z.c2 (z.k 63) kc (eG q 4 o_ _),
     λz=>dv (bK z.qq (z.k 62) (z.k 64) (by first|(simp only[aM];omega)|(simp only[AS,aM];omega))),
     λz=>dv (bK z.qq (z.k 65) kc (by simp only[AS,aM];show _+Gd.size<=_;omega)),
     λz=>dv (bK z.qq (z.k 66) (z.k 67) (by first|(simp only[aM];omega)|(simp only[AS,aM];omega))),
     λz=>z.c1 (z.k 68) (gh KS _ _ (y (aE h.old h.old.size z.b)) g (by first|(simp only[aM];omega)|(simp only[AS,aM];omega))),
     trivial⟩ λa T Q b=> ?_
   have e:=h.below Q;have b:aW [(11, .s (fT KS (id++ob q 4++Gd++j4 KS id seed q 133))),(0, .s seed),(1, .i used),(4, .pt b4),(6, .pt sb),(7, .i q)] 116 [] a:=b.only ⟨rfl,rfl,rfl,rfl,rfl,rfl,trivial⟩;have M:=cm KS (id++ob q 4++Gd++j4 KS id seed q 133);refine Rn.tab1 (R:=λa w'=>Gw w0 b4 sb nb id seed (Gb KS id seed used (q+1)) w'/\aW [(0, .s seed),(1, .i used),(4, .pt b4),(6, .pt sb),(7, .i q)] 116 [] a) (λa S ⟨B,b⟩=> ?_) b
    [(70, .pk sb 2),(71, .sk nb 8 8),(72, .i q),(73, .i ((4+q:Nat):Int)),(74, .pt sb),(75, .s id),(76, .i q),(77, .i ((4+q:Nat):Int)),(78, .s (ob (4+q) 4)),(79, .s (id++ob (4+q) 4)),(80, .s (id++ob (4+q) 4++Ri)),(81, .s (fT KS (id++ob q 4++Gd++j4 KS id seed q 133))),(82, .s (id++ob (4+q) 4++Ri++fT KS (id++ob q 4++Gd++j4 KS id seed q 133))),(83, .s (vO KS id seed q)),(84, .pk nb (4+q))] [72,76,81] [(83, .s (vO KS id seed q)),(84, .pk nb (4+q))]
    ⟨λz=>dv (fU 2 d_ z.qq (z.k 6)),
     λz=>dv (aO ff z.qq (z.k 70) ((aG (bk z.b e.sec) 2).trans rfl)).1,
     λz=>dv (dh (m:=4) z.qq kc (z.k 72) o_),
     λz=>dv (fU 0 d_ z.qq (z.k 6)),
     λz=>dv (aO bN z.qq (z.k 74) ((aG (bk z.b e.sec) 0).trans rfl)).1,
     λz=>dv (dh (m:=4) z.qq kc (z.k 76) o_),
     λz=>z.c2 (z.k 77) kc (eG (4+q) 4 o_ _),
     λz=>dv (bK z.qq (z.k 75) (z.k 78) (by first|(simp only[aM];omega)|(simp only[AS,aM];omega))),
     λz=>dv (bK z.qq (z.k 79) kc (by simp only[AS,aM];show _+Ri.size<=_;omega)),
     λz=>dv (bK z.qq (z.k 80) (z.k 81) (by first|(simp only[aM];omega)|(simp only[AS,aM];omega))),
     λz=>z.c1 (z.k 82) (gh KS _ _ (y (aE e.old e.old.size z.b)) g (by first|(simp only[aM];omega)|(simp only[AS,aM];omega))),
     λz=>dv (qs z.qq (z.k 71) (z.k 73) o_),
     trivial⟩ (λa w' s u b p=> ?_)
   ·exact Rn.p rfl (i (k:=[]) B b)
   ·have d:=e.below u;refine Rn.does0 b (.store 9 (.tmp 84) (.tmp 83)) k_ s_ (λo f=>gj (v:= .s (vO KS id seed q)) rfl rfl k_ f (b.G 84) (b.G 83) d.nod (by simp[t];omega)) λa b=>p a _ ⟨?_,b.only ⟨rfl,rfl,rfl,rfl,rfl,trivial⟩⟩;rw[NH,List.set_set,←D,Dp KS id seed used E];exact d.set _
  ·have C:used/2^q%2=0:=o_;rw[C];refine Rn.p rfl (i (k:=[]) ?_ (b.only ⟨rfl,rfl,rfl,rfl,rfl,trivial⟩));rw[←Dp KS id seed used E,ng,if_neg c];exact x
 ·have d:=r.below u;refine Rn.does0 b (.store 9 (.tmp 40) (.tmp 39)) k_ s_ (λo f=>gj (v:= .s (fT KS (pN++ob q 1++seed))) rfl rfl k_ f (b.G 40) (b.G 39) d.nod (by simp[t];omega)) λa b=>p a _ ⟨?_,b.only ⟨rfl,rfl,rfl,rfl,rfl,trivial⟩⟩;rw[NH];exact d.set _
end
end L1
section
open Go.Conc Go.RowKit
def Qt:ByteArray:=⟨#[105,100]⟩
def j0(KS:List Int)(seed:ByteArray):ByteArray:=(fT KS (Qt++seed)).extract 0 16
theorem iR(KS:List Int)(seed:ByteArray):(j0 KS seed).size=16:=by rw[j0,TT,cm];rfl
def lc(KS:List Int)(id:ByteArray)(n:Nat)(a b:ByteArray):ByteArray:=fT KS (id++ob n 4++Qp++a++b)
section
variable(KS:List Int)(id seed:ByteArray)(used:Nat)
def Oh:ByteArray:=lc KS id 3 (ng KS id seed used 2) (ng KS id seed used 3)
def SN:ByteArray:=lc KS id 2 (ng KS id seed used 0) (ng KS id seed used 1)
def SO:ByteArray:=lc KS id 1 (SN KS id seed used) (Oh KS id seed used)
def Sp:List ByteArray:=[⟨#[]⟩,SO KS id seed used,SN KS id seed used,Oh KS id seed used,ng KS id seed used 0,ng KS id seed used 1,ng KS id seed used 2,ng KS id seed used 3]
end
end
namespace L1
open Go.Conc Go.RowKit
section
variable{y:Operand}
theorem Re(a:o.op= .makeSlice 25 x y)(c:ev x= .i 8)(b:ev y= .i 8):(execOp ev o).run lT w= .ok (.value (.sk w.heap.size 8 8)) (w.alloc (.cells (TZ 8 (Value.string ⟨#[]⟩)).toArray 9)):=by
 have h:=run_make_row' (P:=lT) 25 9 (Value.string ⟨#[]⟩) 16 k_ k_ rfl .i64 .i64 8 o_ o_ w;rw[fg]at h;have e:execOp ev o=(do pure (.value (←Vx 25 (.i 8) (.i 8)))):=by simp only[execOp,a,c,b]
 rw[e];exact nM h
theorem MD(a:o.op= .alloc 27):(execOp ev o).run lT w= .ok (.value (.pk w.heap.size 0)) (w.alloc (.cells #[.string ⟨#[]⟩, .string ⟨#[]⟩, .slice none 0 0] 27)):=by
 have e:execOp ev o=(do pure (.value (←Uo 27 true (.tuple #[])))):=by simp only[execOp,a]
 have b:(do pure (.value (←Uo 27 true (.tuple #[]))):Sem Next).run lT w= .ok (.value (.pk w.heap.size 0)) (w.alloc (.cells #[.string ⟨#[]⟩, .string ⟨#[]⟩, .slice none 0 0] 27)):=k_
 rw[e,b]
theorem QZ{seed:ByteArray}{a:Nat}(b:o.op= .build 27 #[(1,x),(2,y)])(d:ev x= .s seed)(c:ev y= .sk a 8 8):(execOp ev o).run lT w= .ok (.value (.agg (gz ⟨#[]⟩ seed a))) w:=by
 have e:execOp ev o=(do pure (.value (←Uj 27 #[(1, .s seed),(2, .sk a 8 8)]))):=by simp[execOp,b,d,c]
 have f:(do pure (.value (←Uj 27 #[(1, .s seed),(2, .sk a 8 8)])):Sem Next).run lT w= .ok (.value (.agg (gz ⟨#[]⟩ seed a))) w:=k_
 rw[e,f]
theorem Ox:(lT.info? 27).map (·.size)=some 3:=k_
theorem Mv{d:Nat}{id seed:ByteArray}{old:Array Value}{c:TypeId}(a:o.op= .store 27 x y)(f:ev x= .pk b 0)(e:ev y= .agg (gz id seed d))(h:w.heap[b]?=some (.cells old c))(g:old.size=3):
 (execOp ev o).run lT w= .ok .skip (et w b (gz id seed d) c):=by rw[←ie h];exact cZ a f e h Ox g (by simp[gz,Va])
end
def Lc(f:Func):Code:= .seq (.seq (rG f 20) (.cond (.tmp 86) .skip (.exit 4))) (.seq (.block 5 (rD f 22)) (rG f 21))
def Rs(f:Func):Code:= .seq (rG f 23) .ret
def R4(f:Func):Code:= .seq (.seq (rG f 19) (.block 4 (.loop (Lc f)))) (Rs f)
theorem Pk:Tryz.f10.body=some (.seq (rG Tryz.f10 0) (.seq (rG Tryz.f10 1) (.seq (rG Tryz.f10 2) (.seq (.seq (rG Tryz.f10 3) (.cond (.tmp 21) (.seq (rG Tryz.f10 4) .ret) .skip)) (.seq (rG Tryz.f10 5) (.seq (.seq (rG Tryz.f10 6) (.block 0 (.loop (Qr Tryz.f10)))) (R4 Tryz.f10))))))):=k_
section
variable{id seed:ByteArray}{sb nb used:Nat}{NL:List ByteArray}
theorem sR(i:KS.length=64)(s:id.size=16)(t:w0.rangeAt 0 0 (aH KS))(D:0<w0.heap.size)(H:1<=n)(r:n<=3)(f:NL.length=8){A B:ByteArray}(C:NL[2*n]?=some A)(x:NL[2*n+1]?=some B)(y:A.size=32)(u:B.size=32)(c:Gw w0 b4 sb nb id seed NL w)(b:aW [(4, .pt b4),(6, .pt sb),(12, .i n)] 116 [] a)
 (p:∀a w',Gw w0 b4 sb nb id seed (NL.set n (lc KS id n A B)) w'->aW [(4, .pt b4),(6, .pt sb),(12, .i ((n- 1:Nat):Int))] 116 [] a->Rn lT Goal ((base 10).atR a (.code (Lc Tryz.f10):: .inLoop (Lc Tryz.f10):: .inBlock 4::K)) cs w'):
 Rn lT Goal ((base 10).atR a (.code (Lc Tryz.f10):: .inLoop (Lc Tryz.f10):: .inBlock 4::K)) cs w:=by
 have l:∀{w':World},Bw w0 w'->w'.rangeAt 0 0 (aH KS):=λh=>Ti D h t
 iterate 2 refine Rn.uc b λa b=> ?_
 refine Rn.p rfl (Rn.cond _ (b.G 86) ?_);rw[decide_eq_true o_];have b:aW [(4, .pt b4),(6, .pt sb),(12, .i n)] 116 [] a:=b.only ⟨rfl,rfl,rfl,trivial⟩;have q:Qp.size=2:=rfl;have F:((NL.map Value.string).toArray)[2*n]?=some (.s A):=by simp[C]
 have E:((NL.map Value.string).toArray)[2*n+1]?=some (.s B):=by simp[x]
 refine Rn.runs 4 _ ?_;refine Rn.tab1 (R:=λa w'=>Gw w0 b4 sb nb id seed (NL.set n (lc KS id n A B)) w'/\aW [(4, .pt b4),(6, .pt sb),(12, .i n)] 116 [] a) (λa G ⟨j,b⟩=> ?_) b
  [(89, .pk sb 2),(90, .sk nb 8 8),(91, .i n),(92, .pt sb),(93, .s id),(94, .i n),(95, .s (ob n 4)),(96, .s (id++ob n 4)),(97, .s (id++ob n 4++Qp)),(98, .pk sb 2),(99, .sk nb 8 8),(100, .i n),(101, .i ((2*n:Nat):Int)),(102, .pk nb (2*n)),(103, .s A),(104, .s (id++ob n 4++Qp++A)),(105, .pk sb 2),(106, .sk nb 8 8),(107, .i n),(108, .i ((2*n:Nat):Int)),(109, .i ((2*n+1:Nat):Int)),(110, .pk nb (2*n+1)),(111, .s B),(112, .s (id++ob n 4++Qp++A++B)),(113, .s (lc KS id n A B)),(114, .pk nb n)] [91,94,100,107] [(113, .s (lc KS id n A B)),(114, .pk nb n)]
  ⟨λz=>dv (fU 2 d_ z.qq (z.k 6)),
   λz=>dv (aO ff z.qq (z.k 89) ((aG (bk z.b c.sec) 2).trans rfl)).1,
   λz=>dv (fU 0 d_ z.qq (z.k 6)),
   λz=>dv (aO bN z.qq (z.k 92) ((aG (bk z.b c.sec) 0).trans rfl)).1,
   λz=>z.c2 (z.k 94) kc (eG n 4 o_ _),
   λz=>dv (bK z.qq (z.k 93) (z.k 95) (by first|(simp only[aM];omega)|(simp only[AS,aM];omega))),
   λz=>dv (bK z.qq (z.k 96) kc (by simp only[AS,aM];show _+Qp.size<=_;omega)),
   λz=>dv (fU 2 d_ z.qq (z.k 6)),
   λz=>dv (aO ff z.qq (z.k 98) ((aG (bk z.b c.sec) 2).trans rfl)).1,
   λz=>dv (jW (m:=2) z.qq kc (z.k 100) o_),
   λz=>dv (qs z.qq (z.k 99) (z.k 101) o_),
   λz=>dv (aO bN z.qq (z.k 102) ((aG (bk z.b c.nod) _).trans F)).1,
   λz=>dv (bK z.qq (z.k 97) (z.k 103) (by first|(simp only[aM];omega)|(simp only[AS,aM];omega))),
   λz=>dv (fU 2 d_ z.qq (z.k 6)),
   λz=>dv (aO ff z.qq (z.k 105) ((aG (bk z.b c.sec) 2).trans rfl)).1,
   λz=>dv (jW (m:=2) z.qq kc (z.k 107) o_),
   λz=>dv (dh (n:=1) z.qq (z.k 108) kc o_),
   λz=>dv (qs z.qq (z.k 106) (z.k 109) o_),
   λz=>dv (aO bN z.qq (z.k 110) ((aG (bk z.b c.nod) _).trans E)).1,
   λz=>dv (bK z.qq (z.k 104) (z.k 111) (by first|(simp only[aM];omega)|(simp only[AS,aM];omega))),
   λz=>z.c1 (z.k 112) (gh KS _ _ (l (aE c.old c.old.size z.b)) i (by first|(simp only[aM];omega)|(simp only[AS,aM];omega))),
   λz=>dv (qs z.qq (z.k 90) (z.k 91) o_),
   trivial⟩ (λa w' k h b g=> ?_)
 ·refine Rn.p rfl ?_;refine Rn.uc b λa b=> ?_;refine Rn.vv b (λo e=>nO (n:=1) e (b.G 87) rfl o_ o_) λa b=> ?_;refine Rn.uc b λa b=> ?_;exact Rn.p rfl (Rn.p rfl (p _ _ j (b.only ⟨rfl,rfl,rfl,trivial⟩)))
 ·have d:=c.below h;refine Rn.does0 b (.store 9 (.tmp 114) (.tmp 113)) k_ s_ (λo e=>gj (v:= .s (lc KS id n A B)) rfl rfl k_ e (b.G 114) (b.G 113) d.nod (by simp[f];omega)) λa b=>g a _ ⟨?_,b.only ⟨rfl,rfl,rfl,trivial⟩⟩;rw[NH];exact d.set _
end
theorem SL(KS:List Int)(id seed:ByteArray)(used:Nat):Gb KS id seed used 4=[⟨#[]⟩,⟨#[]⟩,⟨#[]⟩,⟨#[]⟩,ng KS id seed used 0,ng KS id seed used 1,ng KS id seed used 2,ng KS id seed used 3]:=by unfold Gb;generalize ng KS id seed used=f;rfl
section
variable{id seed:ByteArray}{sb nb used:Nat}{NL:List ByteArray}
theorem Np(g:KS.length=64)(f:id.size=16)(j:w0.rangeAt 0 0 (aH KS))(k:0<w0.heap.size){e d c b:ByteArray}(p:e.size=32)(s1:d.size=32)(o:c.size=32)(m:b.size=32)(h:Gw w0 b4 sb nb id seed [⟨#[]⟩,⟨#[]⟩,⟨#[]⟩,⟨#[]⟩,e,d,c,b] w)(i:aW [(4, .pt b4),(6, .pt sb),(12, .i 3)] 116 [] a)
 (q:∀a w',Gw w0 b4 sb nb id seed [⟨#[]⟩,lc KS id 1 (lc KS id 2 e d) (lc KS id 3 c b),lc KS id 2 e d,lc KS id 3 c b,e,d,c,b] w'->aW [(4, .pt b4),(6, .pt sb),(12, .i 0)] 116 [] a->Rn lT Goal ((base 10).atR a (.code (Lc Tryz.f10):: .inLoop (Lc Tryz.f10):: .inBlock 4::K)) cs w'):
 Rn lT Goal ((base 10).atR a (.code (Lc Tryz.f10):: .inLoop (Lc Tryz.f10):: .inBlock 4::K)) cs w:=by refine sR g f j k (n:=3) (A:=c) (B:=b) o_ o_ rfl rfl rfl o m h i λa l h i=>sR g f j k (n:=2) (A:=e) (B:=d) o_ o_ rfl rfl rfl p s1 h i λa l h i=> ?_;exact sR g f j k (n:=1) (A:=lc KS id 2 e d) (B:=lc KS id 3 c b) o_ o_ rfl rfl rfl (cm ..) (cm ..) h i λa l h i=>q _ _ h i
end
section
variable{seed:ByteArray}
theorem Im(hKl:KS.length=64)(hseed:seed.size<=140737488355320)(used:Nat)(hused:used<16)(hK:w.rangeAt 0 0 (aH KS))(h0:0<w.heap.size)(cs:List Frame):Rn lT (λg w'=>∃(a:Act) (k:List Item) (bk:Nat) (cells:Array Value) (tt:TypeId),g=cJ {(base 10).atR a k with mode:= .returning} cs/\a.defers=[]/\a.tmps[4]?=some (.pk bk 0)/\w'.heap[bk]?=some (.cells cells tt)/\cells.size=3/\∃v,Wx (.agg cells)= .returned v/\∃nb,v= .agg (gz (j0 KS seed) seed nb)/\w'.heap[nb]?=some (.cells ((Sp KS (j0 KS seed) seed used).map Value.string).toArray 9)/\w.heap.size<=nb/\Bw w w') (TJ lT 10 #[.s seed, .i used] .normal) cs w:=by
 rw[aZ (N:=116) [.s seed, .i used] Lf.func10 Pk rfl];have hF:=aQ [.s seed, .i used] 116 s_;have l2:Qt.size=2:=rfl;have hid:=iR KS seed;refine Rn.al hF (λo ho=>MD ho) λw1 a b1 c1 z1 hF=> ?_;refine Rn.uc hF λa hF=> ?_;refine Rn.vv hF (λo ho=>bK (x:= .const (.s Qt)) ho rfl (hF.G 13) o_) λa hF=> ?_;refine Rn.cw hF Lf.func13 (gh KS (Qt++seed) w1 (Ti h0 b1 hK) hKl (by rw[AS];omega)) λw2 b2 a hF=> ?_;have B2:=aE b1 b1.size b2;have c1:=bk b2 c1;have z2:=b2.size
 iterate 2 refine Rn.uc hF λa hF=> ?_
 refine Rn.al hF (λo ho=>Re ho rfl rfl) λw3 a b3 c3 z3 hF=> ?_;refine Rn.vv hF (λo ho=>QZ ho (hF.G 16) (hF.G 17)) λa hF=> ?_;refine Rn.al hF (λo ho=>MD ho) λw4 a b4 c4 z4 hF=> ?_;refine Rn.nn hF (λo ho=>Mv ho (hF.G 6) (hF.G 18) c4 rfl) λa hF=> ?_;have c5:=cP (cs:=gz ⟨#[]⟩ seed w2.heap.size) (t:=27) c4;refine Rn.uc hF λa hF=> ?_;refine Rn.vv hF (λo ho=>mS (s:=fT KS (Qt++seed)) ho (hF.G 19)) λa hF=> ?_;rw[cm]at hF;refine Rn.uc hF λa hF=> ?_;refine Rn.p rfl (Rn.cond _ (hF.G 21) ?_);refine Rn.uc hF λa hF=> ?_;refine Rn.vv hF (λo ho=>tA (t:=fT KS (Qt++seed)) (n:=16) ho (hF.G 23) rfl (by rw[cm];omega)) λa hF=> ?_;refine Rn.vv hF (λo ho=>fU 0 d_ ho (hF.G 6)) λa hF=> ?_;refine Rn.nn hF (λo ho=>gj (v:= .s (j0 KS seed)) rfl rfl k_ ho (hF.G 25) (hF.G 24) c5 (d_:0<3)) λa hF=> ?_;rw[show(gz ⟨#[]⟩ seed w2.heap.size).setIfInBounds 0 (.s (j0 KS seed))=gz (j0 KS seed) seed w2.heap.size from rfl,xf];have hG:Gw w w.heap.size w3.heap.size w2.heap.size (j0 KS seed) seed (Gb KS (j0 KS seed) seed used 0) (et w4 w3.heap.size (gz (j0 KS seed) seed w2.heap.size) 27):=
  ⟨(aE (aE B2 B2.size b3) (aE B2 B2.size b3).size b4).trans (dA o_),⟨_,rfl,(bX o_).trans (bk b4 (bk b3 c1))⟩,cP c4,(bX o_).trans (bk b4 c3),⟨o_,o_,o_⟩,o_⟩
 revert hG;generalize et w4 w3.heap.size (gz (j0 KS seed) seed w2.heap.size) 27=w5;intro hG;refine Rn.uc hF λa hF=> ?_;refine Rn.runs 3 _ ?_;refine jX hKl hid o_ hused hK h0 (q:=0) o_ hG (hF.only ⟨rfl,rfl,rfl,rfl,rfl,trivial⟩) λa w5 hG hF=>jX hKl hid o_ hused hK h0 (q:=1) o_ hG hF λa w5 hG hF=>jX hKl hid o_ hused hK h0 (q:=2) o_ hG hF λa w5 hG hF=>jX hKl hid o_ hused hK h0 (q:=3) o_ hG hF λa w5 hG hF=> ?_;rw[show 3+1=4 from rfl,SL]at hG;have hF:aW [(4, .pt w.heap.size),(6, .pt w3.heap.size),(7, .i 4)] 116 [] a:=hF.only ⟨rfl,rfl,rfl,trivial⟩;clear c1 c3 c4 c5;refine Rn.uc hF λa hF=> ?_;refine Rn.vv hF (λo ho=>(di (ql:=true) (m:=4) (n:=4) ho (hF.G 26) rfl).1) λa hF=> ?_;refine Rn.p rfl (Rn.cond _ (hF.G 27) ?_);refine Rn.uc hF λa hF=> ?_;refine Rn.runs 3 _ ?_;refine Np hKl hid hK h0 (g6 ..) (g6 ..) (g6 ..) (g6 ..) hG (hF.only ⟨rfl,rfl,rfl,trivial⟩) λa w5 hG hF=> ?_;rw[show[⟨#[]⟩,lc KS (j0 KS seed) 1 (lc KS (j0 KS seed) 2 (ng KS (j0 KS seed) seed used 0) (ng KS (j0 KS seed) seed used 1)) (lc KS (j0 KS seed) 3 (ng KS (j0 KS seed) seed used 2) (ng KS (j0 KS seed) seed used 3)),lc KS (j0 KS seed) 2 (ng KS (j0 KS seed) seed used 0) (ng KS (j0 KS seed) seed used 1),lc KS (j0 KS seed) 3 (ng KS (j0 KS seed) seed used 2) (ng KS (j0 KS seed) seed used 3),ng KS (j0 KS seed) seed used 0,ng KS (j0 KS seed) seed used 1,ng KS (j0 KS seed) seed used 2,ng KS (j0 KS seed) seed used 3]=Sp KS (j0 KS seed) seed used from by rw[Sp,SO,SN,Oh]]at hG;refine Rn.uc hF λa hF=> ?_;refine Rn.vv hF (λo ho=>tB (m:=0) (n:=0) ho (hF.G 85) rfl) λa hF=> ?_;refine Rn.p rfl (Rn.cond _ (hF.G 86) ?_);obtain⟨c,hc3,hc⟩:=hG.res;refine Rn.vv hF (λo ho=>fe ho (hF.G 6) hG.sec) λa hF=> ?_;refine Rn.nn hF (λo ho=>Mv ho (hF.G 4) (hF.G 115) hc hc3) λa hF=> ?_;have zz:=hG.old.size;exact Rn.runs 6 _ (Rn.ends rfl (.inr ⟨_,rfl⟩) (Rn.now ⟨_,_,w.heap.size,_,_,rfl,hF.defers,hF.slot 4 _ rfl,cP hc,rfl,_,rfl,w2.heap.size,rfl,(bX (cC hG.nod hc d_)).trans hG.nod,o_,hG.old.trans (dA (TB _))⟩))
end
end L1
section
open Go.Conc Go.RowKit
theorem RF(L:List UInt8)(c:Nat):dK L 2 c<=3:=by have:dK L 2 c<2^2:=Nat.mod_lt _ d_;omega
theorem AU(L:List UInt8):∀n,fJ L 2 n<=3*n
 |0=>TB _
 |n+1=>by have b:=AU L n;have a:eD 2=3:=rfl;rw[fJ,a];omega
def z9(KS:List Int)(id seed:ByteArray)(q:Nat)(salt:ByteArray)(D:List UInt8):Nat->ByteArray
 |0=>ob q 4++ob 2 4++salt
 |n+1=>z9 KS id seed q salt D n++Ge KS (id++ob q 4++ob n 2) (dK D 2 n) 0 (B8 KS id seed q n)
theorem li(KS:List Int)(id seed:ByteArray)(q:Nat)(salt:ByteArray)(D:List UInt8)(hs:salt.size=32):∀n,(z9 KS id seed q salt D n).size=40+32*n
 |0=>by simp only[z9,AS,aM];omega
 |n+1=>by rw[z9,AS,li KS id seed q salt D hs n,nj _ _ _ _ _ (kR KS id seed q n)];omega
end
namespace L1
open Go.Conc Go.RowKit
def On(f:Func):Code:= .seq (.seq (rG f 6) (.cond (.tmp 32) .skip (.exit 0))) (.seq (.block 1 (.seq (rG f 8) (rG f 9))) (rG f 7))
def Om(f:Func):Code:= .seq (.seq (rG f 13) (.cond (.tmp 54) .skip (.exit 2))) (.seq (.block 3 (.seq (rD f 15) (rG f 16))) (rG f 14))
def HW(f:Func):Code:= .seq (.seq (rG f 19) (.cond (.tmp 77) .skip (.exit 4))) (.seq (.block 5 (rG f 21)) (rG f 20))
section
variable{id seed salt hh:ByteArray}{sb nb q:Nat}
theorem Gx(p:hh.size=32)
 (d:∀a,aW [(1, .i q),(2, .s salt),(4, .pt sb),(9, .s hh),(10, .i ((fJ hh.data.toList 2 128:Nat):Int))] 89 [] a->Rn lT Goal ((base 37).atR a K) cs w):
 ∀(m i:Nat) (a:Act),128- i=m->i<=128->aW [(1, .i q),(2, .s salt),(4, .pt sb),(9, .s hh),(10, .i ((fJ hh.data.toList 2 i:Nat):Int)),(11, .i i)] 89 [] a->Rn lT Goal ((base 37).atR a (.code (On Tryz.f37):: .inLoop (On Tryz.f37):: .inBlock 0::K)) cs w:=by
 intro m;induction m with
 |zero=>
  intro i a h j b;refine Rn.uc b λa b=> ?_;refine Rn.vv b (λo c=>(di (ql:=true) (n:=128) c (b.G 31) rfl).1) λa b=> ?_;refine Rn.p rfl (Rn.cond _ (b.G 32) ?_);rw[decide_eq_false o_];obtain rfl:i=128:=o_
  exact Rn.p rfl (d _ (b.only ⟨rfl,rfl,rfl,rfl,rfl,trivial⟩))
 |succ m e=>
  intro i a h j b;refine Rn.uc b λa b=> ?_;refine Rn.vv b (λo c=>(di (ql:=true) (n:=128) c (b.G 31) rfl).1) λa b=> ?_;refine Rn.p rfl (Rn.cond _ (b.G 32) ?_);rw[decide_eq_true o_]
  iterate 2 refine Rn.uc b λa b=> ?_
  refine Rn.cw b Lf.func54 (vZ hh i o_ o_ w) λl f a b=> ?_;rw[f];have r:=RF hh.data.toList i;have g:=AU hh.data.toList i;have k:eD 2=3:=rfl
  iterate 2 refine Rn.uc b λa b=> ?_
  refine Rn.vv b (λo c=>dh (n:=3) c (b.G 38) rfl o_) λa b=> ?_;refine Rn.uc b λa b=> ?_;refine Rn.vv b (λo c=>nO c (b.G 39) (b.G 40) o_ o_) λa b=> ?_;rw[show fJ hh.data.toList 2 i+3- dK hh.data.toList 2 i=fJ hh.data.toList 2 (i+1)from by rw[fJ,k];omega]at b
  iterate 2 refine Rn.uc b λa b=> ?_
  refine Rn.vv b (λo c=>dh (n:=1) c (b.G 33) rfl o_) λa b=> ?_;refine Rn.uc b λa b=> ?_;exact Rn.p rfl (Rn.p rfl (e (i+1) _ o_ o_ (b.only ⟨rfl,rfl,rfl,rfl,rfl,rfl,trivial⟩)))
theorem F7(l:KS.length=64)(h:id.size=16)(d:seed.size<=140737488355328)(f:salt.size=32)(F:hh.size=34)(C:w0.rangeAt 0 0 (aH KS))(r:0<w0.heap.size)
 (u:∀a w',Bw w0 w'->w'.heap[sb]?=some (.cells (gz id seed nb) 27)->aW [(1, .i q),(4, .pt sb),(13, .s (z9 KS id seed q salt hh.data.toList 133))] 89 [] a->Rn lT Goal ((base 37).atR a K) cs w'):
 ∀(m i:Nat) (a:Act) (w:World),133- i=m->i<=133->Bw w0 w->w.heap[sb]?=some (.cells (gz id seed nb) 27)->aW [(1, .i q),(4, .pt sb),(9, .s hh),(13, .s (z9 KS id seed q salt hh.data.toList i)),(14, .i i)] 89 [] a->Rn lT Goal ((base 37).atR a (.code (Om Tryz.f37):: .inLoop (Om Tryz.f37):: .inBlock 2::K)) cs w:=by
 intro m;induction m with
 |zero=>
  intro i a w A B c j b;refine Rn.uc b λa b=> ?_;refine Rn.vv b (λo g=>(di (ql:=true) (n:=133) g (b.G 53) rfl).1) λa b=> ?_;refine Rn.p rfl (Rn.cond _ (b.G 54) ?_);rw[decide_eq_false o_];obtain rfl:i=133:=o_
  exact Rn.p rfl (u _ _ c j (b.only ⟨rfl,rfl,rfl,trivial⟩))
 |succ m v=>
  intro i a w A B c j b;refine Rn.uc b λa b=> ?_;refine Rn.vv b (λo g=>(di (ql:=true) (n:=133) g (b.G 53) rfl).1) λa b=> ?_;refine Rn.p rfl (Rn.cond _ (b.G 54) ?_);rw[decide_eq_true o_];have b:aW [(1, .i q),(4, .pt sb),(9, .s hh),(13, .s (z9 KS id seed q salt hh.data.toList i)),(14, .i i)] 89 [] a:=b.only ⟨rfl,rfl,rfl,rfl,rfl,trivial⟩;have p:∀{w':World},Bw w w'->w'.rangeAt 0 0 (aH KS)/\0<w'.heap.size:=λk=>⟨Ti r (aE c c.size k) C,TC r (aE c c.size k).size⟩;refine Rn.runs 4 _ ?_;refine Rn.tabL b [(57, .agg (gz id seed nb)),(58, .i q),(59, .i i),(60, .s hh),(61, .i i),(62, .i ((dK hh.data.toList 2 i:Nat):Int)),(63, .agg (gz id seed nb)),(64, .i q),(65, .i i),(66, .s (B8 KS id seed q i)),(67, .s (Ge KS (id++ob q 4++ob i 2) (dK hh.data.toList 2 i) 0 (B8 KS id seed q i))),(15, .s (Ge KS (id++ob q 4++ob i 2) (dK hh.data.toList 2 i) 0 (B8 KS id seed q i)))] [58,59,60,61,64,65,15] [(15, .s (Ge KS (id++ob q 4++ob i 2) (dK hh.data.toList 2 i) 0 (B8 KS id seed q i)))]
   ⟨λz=>dv (fe z.qq (z.k 4) (bk z.b j)),
    λz=>z.c2 (z.k 60) (z.k 61) ((vZ hh i o_ o_ _).mono λe w' ⟨E,D⟩=>⟨E,D▸bR⟩),
    λz=>dv (fe z.qq (z.k 4) (bk z.b j)),
    λz=>z.c3 (z.k 63) (z.k 64) (z.k 65) (vi l h d q i (p z.b).1 (p z.b).2),
    λz=>z.c6 (z.k 57) (z.k 58) (z.k 59) kc (z.k 62) (z.k 66) (Di l h q i (dK hh.data.toList 2 i) (RF _ _) _ (kR _ _ _ _ _) (p z.b).1 (p z.b).2),
    trivial⟩ λa t s b=> ?_
  have y:=li KS id seed q salt hh.data.toList f i;have x:=nj KS (id++ob q 4++ob i 2) (dK hh.data.toList 2 i) 0 _ (kR KS id seed q i)
  iterate 2 refine Rn.uc b λa b=> ?_
  refine Rn.vv b (λo g=>bK g (b.G 68) (b.G 69) o_) λa b=> ?_
  iterate 2 refine Rn.uc b λa b=> ?_
  refine Rn.vv b (λo g=>dh (n:=1) g (b.G 55) rfl o_) λa b=> ?_;refine Rn.uc b λa b=> ?_;exact Rn.p rfl (Rn.p rfl (v (i+1) _ t o_ o_ (aE c c.size s) (bk s j) (b.only ⟨rfl,rfl,rfl,rfl,rfl,trivial⟩)))
end
end L1
section
open Go.Conc Go.RowKit
def Qq:ByteArray:=⟨#[129,129]⟩
def Ln(KS:List Int)(id:ByteArray)(q:Nat)(salt msg:ByteArray):ByteArray:=fT KS (id++ob q 4++Qq++salt++msg)
def Qu(KS:List Int)(id:ByteArray)(q:Nat)(salt msg:ByteArray):ByteArray:=Ln KS id q salt msg++ob (fJ (Ln KS id q salt msg).data.toList 2 128*2^6) 2
def sd(KS:List Int)(id seed:ByteArray)(q:Nat)(salt msg X1 X2:ByteArray):ByteArray:=z9 KS id seed q salt (Qu KS id q salt msg).data.toList 133++ob 226 4++X1++X2
end
namespace L1
open Go.Conc Go.RowKit
section
variable{y:Operand}
theorem Ks(f:m<1000)(d:n<1000)(a:o.op= .binOp .xor 3 x y u)(c:ev x= .i m)(b:ev y= .i n):(execOp ev o).run lT w= .ok (.value (.i ((m^^^n:Nat):Int))) w:=by have e:=zF m n o_ o_;simp[execOp,a,c,b,go_sem,e]
theorem Kx(d:m<100000)(a:o.op= .binOp .shl 3 x y u)(c:ev x= .i m)(b:ev y= .int .u64 6):(execOp ev o).run lT w= .ok (.value (.i ((m*2^6:Nat):Int))) w:=by
 have e:U2.wrap ((m:Int)*64)=((m*64:Nat):Int):=by rw[TR];omega
 simp[execOp,a,c,b,go_sem,e]
end
section
variable{id seed out X:ByteArray}{sb nb:Nat}{NL:List ByteArray}
theorem vD(m:1<n)(g:n<8)(j:NL[n^^^1]?=some X)(i:X.size=32)(c:out.size<=100000)(e:n^^^1<8)(h:w.heap[sb]?=some (.cells (gz id seed nb) 27))(k:w.heap[nb]?=some (.cells (NL.map Value.string).toArray 9))(b:aW [(4, .pt sb),(13, .s out),(16, .int .i64 n)] 89 [] a)
 (f:∀a,aW [(4, .pt sb),(13, .s (out++X)),(16, .int .i64 ((n/2:Nat):Int))] 89 [] a->Rn (aI true tP) Goal ((base 37).atR a (.code (HW Tryz.f37):: .inLoop (HW Tryz.f37):: .inBlock 4::K)) cs w):
 Rn (aI true tP) Goal ((base 37).atR a (.code (HW Tryz.f37):: .inLoop (HW Tryz.f37):: .inBlock 4::K)) cs w:=by
 have l:((NL.map Value.string).toArray)[n^^^1]?=some (.s X):=by simp[j]
 refine Rn.uc b λa b=> ?_;refine Rn.vv b (λo c=>tB (n:=1) c (b.get (d:=76) rfl) rfl) λa b=> ?_;refine Rn.p rfl (Rn.cond _ (b.get (d:=77) rfl) ?_);rw[decide_eq_true o_];refine Rn.uc b λa b=> ?_;refine Rn.vv b (λo c=>fU 2 d_ c (b.get (d:=4) rfl)) λa b=> ?_;refine Rn.vv b (λo c=>(aO ff c (b.get (d:=81) rfl) ((aG h 2).trans rfl)).1) λa b=> ?_;refine Rn.uc b λa b=> ?_;refine Rn.vv b (λo c=>Ks (n:=1) o_ o_ c (b.get (d:=83) rfl) rfl) λa b=> ?_;refine Rn.vv b (λo c=>qs c (b.get (d:=82) rfl) (b.get (d:=84) rfl) e) λa b=> ?_;refine Rn.vv b (λo c=>(aO bN c (b.get (d:=85) rfl) ((aG k _).trans l)).1) λa b=> ?_;refine Rn.vv b (λo c=>bK c (b.get (d:=80) rfl) (b.get (d:=86) rfl) o_) λa b=> ?_
 iterate 2 refine Rn.uc b λa b=> ?_
 refine Rn.vv b (λo c=>CU (n:=2) c (b.get (d:=78) rfl) rfl o_ o_) λa b=> ?_;refine Rn.uc b λa b=> ?_;exact Rn.p rfl (Rn.p rfl (f _ (b.only ⟨rfl,rfl,rfl,trivial⟩)))
end
theorem OZ:Tryz.f37.body=some (.seq (rG Tryz.f37 0) (.seq (rD Tryz.f37 1) (.seq (.seq (rG Tryz.f37 2) (.cond (.tmp 30) (.seq (rG Tryz.f37 3) .ret) .skip)) (.seq (rG Tryz.f37 4) (.seq (.seq (rG Tryz.f37 5) (.block 0 (.loop (On Tryz.f37)))) (.seq (rG Tryz.f37 10) (.seq (rG Tryz.f37 11) (.seq (.seq (rG Tryz.f37 12) (.block 2 (.loop (Om Tryz.f37)))) (.seq (rG Tryz.f37 17) (.seq (.seq (rG Tryz.f37 18) (.block 4 (.loop (HW Tryz.f37)))) (.seq (rG Tryz.f37 22) .ret))))))))))):=k_
section
variable{id seed salt X1 X2:ByteArray}{nb:Nat}{NL:List ByteArray}
theorem EC(g:KS.length=64)(p:id.size=16)(l:seed.size<=140737488355320)(f:salt.size=32)(y:msg.size<=1000000){q:Nat}(hq:q<4)(A:w.heap[nb]?=some (.cells (NL.map Value.string).toArray 9))(Y:NL[(4+q)^^^1]?=some X1)(X:NL[(4+q)/2^^^1]?=some X2)(L:X1.size=32)(K:X2.size=32)(B:w.rangeAt 0 0 (aH KS))(C:0<w.heap.size):
 Calls (aI true tP) 37 #[.agg (gz id seed nb), .int .i64 q, .s salt, .s msg] w λe w'=>e= .returned (.s (sd KS id seed q salt msg X1 X2))/\Bw w w':=by
 refine bI (t:=8) Lf.func37 rfl λcs=> ?_;rw[aZ (N:=89) [.agg (gz id seed nb), .int .i64 q, .s salt, .s msg] Lf.func37 OZ rfl];have b:=aQ [.agg (gz id seed nb), .int .i64 q, .s salt, .s msg] 89 s_;refine Rn.zz b λw1 a h E J b=> ?_;refine Rn.uc b λa b=> ?_;have b:aW [(1, .int .i64 q),(2, .s salt),(3, .s msg),(4, .pt w.heap.size)] 89 [] a:=b.only ⟨rfl,rfl,rfl,rfl,trivial⟩;have U:Qq.size=2:=rfl;refine Rn.p rfl (Rn.p rfl ?_);refine Rn.tabL b [(17, .pt w.heap.size),(18, .s id),(19, .int .i64 q),(20, .s (ob q 4)),(21, .s (id++ob q 4)),(22, .s (id++ob q 4++Qq)),(23, .s salt),(24, .s (id++ob q 4++Qq++salt)),(25, .s msg),(26, .s (id++ob q 4++Qq++salt++msg)),(27, .s (Ln KS id q salt msg)),(9, .s (Ln KS id q salt msg))] [19,23,25,9] [(9, .s (Ln KS id q salt msg))]
  ⟨λz=>dv (fU 0 d_ z.qq (z.k 4)),
   λz=>dv (aO bN z.qq (z.k 17) ((aG (bk z.b E) 0).trans rfl)).1,
   λz=>z.c2 (z.k 19) kc (eG q 4 o_ _),
   λz=>dv (bK z.qq (z.k 18) (z.k 20) (by first|(simp only[aM];omega)|(simp only[AS,aM];omega))),
   λz=>dv (bK z.qq (z.k 21) kc (by simp only[AS,aM];show _+Qq.size<=_;omega)),
   λz=>dv (bK z.qq (z.k 22) (z.k 23) (by first|(simp only[aM];omega)|(simp only[AS,aM];omega))),
   λz=>dv (bK z.qq (z.k 24) (z.k 25) (by first|(simp only[aM];omega)|(simp only[AS,aM];omega))),
   λz=>z.c1 (z.k 26) (gh KS _ _ (Ti C (aE h h.size z.b) B) g (by first|(simp only[aM];omega)|(simp only[AS,aM];omega))),
   trivial⟩ λa T H b=> ?_
 have x:=aE h h.size H;have c2:=bk H E;have N2:=bk x A;have k:(Ln KS id q salt msg).size=32:=cm ..;have b:aW [(1, .int .i64 q),(2, .s salt),(4, .pt w.heap.size),(9, .s (Ln KS id q salt msg))] 89 [] a:=b.only ⟨rfl,rfl,rfl,rfl,trivial⟩;refine Rn.uc b λa b=> ?_;refine Rn.vv b (λo c=>mS c (b.get (d:=28) rfl)) λa b=> ?_;rw[k]at b;refine Rn.vv b (λo c=>Be (m:=32) (n:=32) c (b.get (d:=29) rfl) rfl) λa b=> ?_;refine Rn.p rfl (Rn.cond _ (b.get (d:=30) rfl) ?_)
 iterate 2 refine Rn.uc b λa b=> ?_
 refine Rn.runs 3 _ ?_;refine Gx k (λa b=> ?_) 128 0 _ rfl o_ (b.only ⟨rfl,rfl,rfl,rfl,rfl,rfl,trivial⟩);have W:=AU (Ln KS id q salt msg).data.toList 128
 iterate 2 refine Rn.uc b λa b=> ?_
 refine Rn.vv b (λo c=>Kx o_ c (b.get (d:=43) rfl) rfl) λa b=> ?_;refine Rn.cw b Lf.func23 (eG _ 2 o_ T) λS G a b=> ?_;refine Rn.vv b (λo c=>bK (u:=ob (fJ (Ln KS id q salt msg).data.toList 2 128*2^6) 2) c (b.get (d:=42) rfl) (b.get (d:=45) rfl) (by rw[aM];omega)) λa b=> ?_;have i:=aE x x.size G;have b:aW [(1, .int .i64 q),(2, .s salt),(4, .pt w.heap.size),(46, .s (Qu KS id q salt msg))] 89 [] a:=b.only ⟨rfl,rfl,rfl,rfl,trivial⟩
 iterate 2 refine Rn.uc b λa b=> ?_
 refine Rn.cw b Lf.func23 (eG q 4 o_ S) λR s a b=> ?_;refine Rn.cw b Lf.func23 (eG 2 4 o_ R) λQ F a b=> ?_;have B5:=aE (aE i i.size s) (aE i i.size s).size F;have c5:=bk F (bk s (bk G c2));have b:aW [(1, .int .i64 q),(2, .s salt),(4, .pt w.heap.size),(9, .s (Qu KS id q salt msg)),(48, .s (ob q 4)),(49, .s (ob 2 4))] 89 [] a:=b.only ⟨rfl,rfl,rfl,rfl,rfl,rfl,trivial⟩;refine Rn.vv b (λo c=>bK c (b.get (d:=48) rfl) (b.get (d:=49) rfl) (by first|(simp only[aM];omega)|(simp only[AS,aM];omega))) λa b=> ?_;refine Rn.uc b λa b=> ?_;refine Rn.vv b (λo c=>bK c (b.get (d:=50) rfl) (b.get (d:=51) rfl) (by first|(simp only[aM];omega)|(simp only[AS,aM];omega))) λa b=> ?_
 iterate 2 refine Rn.uc b λa b=> ?_
 refine Rn.runs 3 _ ?_;have j:(Qu KS id q salt msg).size=34:=by rw[Qu,AS,k,aM]
 refine F7 (salt:=salt) g p o_ f j B C (λa P v Z b=> ?_) 133 0 _ Q rfl o_ B5 c5 (b.only ⟨rfl,rfl,rfl,rfl,rfl,trivial⟩);have V:=li KS id seed q salt (Qu KS id q salt msg).data.toList f 133;have N6:=bk v A;refine Rn.uc b λa b=> ?_;refine Rn.cw b Lf.func23 (eG 226 4 o_ P) λw7 r a b=> ?_;have B7:=aE v v.size r;have D:=bk r Z;have I:=bk r N6;refine Rn.vv b (λo c=>bK (u:=ob 226 4) c (b.get (d:=71) rfl) (b.get (d:=72) rfl) (by rw[aM];omega)) λa b=> ?_
 iterate 2 refine Rn.uc b λa b=> ?_
 refine Rn.vv b (λo c=>dh (m:=4) c rfl (b.get (d:=74) rfl) o_) λa b=> ?_;refine Rn.uc b λa b=> ?_;refine Rn.runs 3 _ ?_;have O:(4+q)^^^1<8:=Yu (n:=3) o_ o_;have M:(4+q)/2^^^1<8:=Yu (n:=3) o_ o_;refine vD (n:=4+q) o_ o_ Y L (by rw[AS,aM];omega) O D I (b.only ⟨rfl,rfl,rfl,trivial⟩) λa b=>vD (n:=(4+q)/2) o_ o_ X K (by rw[AS,AS,aM];omega) M D I b λa b=> ?_;rw[show(4+q)/2/2=1 by omega]at b;refine Rn.uc b λa b=> ?_;refine Rn.vv b (λo c=>tB (m:=1) (n:=1) c (b.get (d:=76) rfl) rfl) λa b=> ?_;refine Rn.p rfl (Rn.cond _ (b.get (d:=77) rfl) ?_)
 iterate 2 refine Rn.uc b λa b=> ?_
 exact Rn.fi b ⟨rfl,B7⟩
end
end L1
section
open Go.Conc Go.RowKit
def jx:ByteArray:=⟨#[76,78,84,76]⟩
def z6:ByteArray:=⟨#[0,0,0,0,0,0]⟩
def qj:ByteArray:=⟨#[115,97,108,116]⟩
def E1(b:ByteArray):ByteArray:=if 500<b.size then b.extract 0 500 else b
def LC(en:Nat)(bd:ByteArray):Nat:=if en%2=1/\8<bd.size then 84 else 80
def ut(id rt:ByteArray)(v e:Nat)(bd:ByteArray):ByteArray:=jx++ob v 2++ob (84+bd.size) 4++ob e 4++ob (84+bd.size) 4++ob 4364 4++L1.yc id rt++z6++bd
def qc(n:Nat):ByteArray:=⟨(TZ n (0:UInt8)).toArray⟩
theorem je(n:Nat):(qc n).size=n:=by show(TZ n (0:UInt8)).toArray.size=n;simp
def Fe(KS:List Int)(id seed rt X1 X2:ByteArray)(q v e:Nat)(bd:ByteArray):ByteArray:=ut id rt v e bd++sd KS id seed q (fT KS (qj++bd)) (ut id rt v e bd) X1 X2++qc (8192-(ut id rt v e bd++sd KS id seed q (fT KS (qj++bd)) (ut id rt v e bd) X1 X2).size)
theorem pO(id rt:ByteArray)(b:id.size=16)(a:rt.size=32):(L1.yc id rt).size=56:=by simp only[L1.yc,AS,aM];omega
end
namespace L1
open Go.Conc Go.RowKit
def MA(f:Func):Code:= .seq (rG f 7) (.seq (rG f 8) (.seq (rG f 9) (.seq (.seq (rG f 10) (.cond (.tmp 78) (rG f 11) .skip)) (.seq (rG f 12) .ret))))
def MB(f:Func):Code:= .seq (rG f 3) (.seq (rD f 4) (.seq (.seq (rG f 5) (.cond (.tmp 45) (rD f 6) .skip)) (MA f)))
section
variable{id seed rt bd X1 X2:ByteArray}{nb q v en:Nat}{NL:List ByteArray}
theorem xu(p:KS.length=64)(k:id.size=16)(h:seed.size<=140737488355320)(t:rt.size=32)(K:bd.size<=500){e:Nat}(I:q<4)(O:NL[(4+q)^^^1]?=some X1)(N:NL[(4+q)/2^^^1]?=some X2)(H:X1.size=32)(G:X2.size=32)(M:w0.rangeAt 0 0 (aH KS))(E:0<w0.heap.size)(g:Bw w0 w)(s:w.heap[w0.heap.size]?=some (.cells (gz id seed nb) 27))(z:w.heap[nb]?=some (.cells (NL.map Value.string).toArray 9))(b:aW [(1, .int .i64 q),(4, .s bd),(5, .pt w0.heap.size),(12, .s (jx++ob v 2++ob (84+bd.size) 4++ob e 4++ob (84+bd.size) 4++ob 4364 4++yc id rt))] 88 [] a)
 (C:∀a w',Bw w0 w'->aW [(10, .s ((Fe KS id seed rt X1 X2 q v e bd).extract 0 8192))] 88 [] a->Rn (aI true tP) Goal ((base 27).atR a [.code .ret]) cs w'):
 Rn (aI true tP) Goal ((base 27).atR a [.code (MA Tryz.f27)]) cs w:=by
 have l4:jx.size=4:=rfl;have l6:z6.size=6:=rfl;have W:qj.size=4:=rfl;have X:(yc id rt).size=56:=pO id rt k t;have r:∀{w':World},Bw w w'->w'.rangeAt 0 0 (aH KS)/\0<w'.heap.size:=λl=>⟨Ti E (aE g g.size l) M,TC E (aE g g.size l).size⟩;have V:(ut id rt v e bd).size=84+bd.size:=by simp only[ut,AS,aM];omega
 have Y:(sd KS id seed q (fT KS (qj++bd)) (ut id rt v e bd) X1 X2).size=4364:=by rw[sd,AS,AS,AS,li _ _ _ _ _ _ (cm ..),aM];omega
 refine Rn.uc b λa b=> ?_;refine Rn.vv b (λo c=>bK (y:= .const (.s z6)) c (b.get (d:=62) rfl) rfl (by simp only[AS,aM];omega)) λa b=> ?_;refine Rn.uc b λa b=> ?_;refine Rn.vv b (λo c=>bK c (b.get (d:=63) rfl) (b.get (d:=64) rfl) (by simp only[AS,aM];omega)) λa b=> ?_;have b:aW [(1, .int .i64 q),(4, .s bd),(5, .pt w0.heap.size),(65, .s (ut id rt v e bd))] 88 [] a:=b.only ⟨rfl,rfl,rfl,rfl,trivial⟩
 iterate 2 refine Rn.uc b λa b=> ?_
 refine Rn.vv b (λo c=>bK (x:= .const (.s qj)) c rfl (b.get (d:=66) rfl) o_) λa b=> ?_;refine Rn.cw b Lf.func13 (gh KS (qj++bd) w (r (bR)).1 p (by rw[AS];omega)) λU i a b=> ?_;have b:aW [(1, .int .i64 q),(5, .pt w0.heap.size),(12, .s (ut id rt v e bd)),(68, .s (fT KS (qj++bd)))] 88 [] a:=b.only ⟨rfl,rfl,rfl,rfl,trivial⟩
 iterate 2 refine Rn.uc b λa b=> ?_
 refine Rn.vv b (λo c=>fe c (b.get (d:=5) rfl) (bk i s)) λa b=> ?_
 iterate 3 refine Rn.uc b λa b=> ?_
 refine Rn.cw b Lf.func37 (EC (salt:=fT KS (qj++bd)) (msg:=ut id rt v e bd) p k h (cm ..) o_ I (bk i z) O N H G (r i).1 (r i).2) λB R a b=> ?_;have F:=aE (aE g g.size i) (aE g g.size i).size R;refine Rn.vv b (λo c=>bK c (b.get (d:=69) rfl) (b.get (d:=74) rfl) o_) λa b=> ?_;have Z:(ut id rt v e bd++sd KS id seed q (fT KS (qj++bd)) (ut id rt v e bd) X1 X2).size=4448+bd.size:=by rw[AS];omega
 have b:aW [(75, .s (ut id rt v e bd++sd KS id seed q (fT KS (qj++bd)) (ut id rt v e bd) X1 X2))] 88 [] a:=b.only ⟨rfl,trivial⟩;have L:Fe KS id seed rt X1 X2 q v e bd=ut id rt v e bd++sd KS id seed q (fT KS (qj++bd)) (ut id rt v e bd) X1 X2++qc (8192-(ut id rt v e bd++sd KS id seed q (fT KS (qj++bd)) (ut id rt v e bd) X1 X2).size):=rfl;rw[L]at C;generalize ut id rt v e bd++sd KS id seed q (fT KS (qj++bd)) (ut id rt v e bd) X1 X2=f at*
 iterate 2 refine Rn.uc b λa b=> ?_
 refine Rn.vv b (λo c=>mS c (b.get (d:=76) rfl)) λa b=> ?_;refine Rn.vv b (λo c=>(di (ql:=true) (n:=8192) c (b.get (d:=77) rfl) rfl).1) λa b=> ?_;refine Rn.p rfl (Rn.cond _ (b.get (d:=78) rfl) ?_);rw[decide_eq_true o_]
 iterate 2 refine Rn.uc b λa b=> ?_
 refine Rn.vv b (λo c=>mS c (b.get (d:=80) rfl)) λa b=> ?_;refine Rn.vv b (λo c=>nO (m:=8192) c rfl (b.get (d:=81) rfl) o_ o_) λa b=> ?_;refine Rn.al b (λo c=>HU o_ c (b.get (d:=82) rfl) (b.get (d:=82) rfl)) λT a Q P S b=> ?_;have D:(TZ (8192- f.size) (0:UInt8)).length=8192- f.size:=Zf;rw[show Value.sk B.heap.size (8192- f.size) (8192- f.size)= .sk B.heap.size (TZ (8192- f.size) (0:UInt8)).length (8192- f.size)from by rw[D]]at b;refine Rn.vv b (λo c=>wW c (b.get (d:=83) rfl) λj J=> ?_) λa b=> ?_
 ·rw[aG P];have A:j<8192- f.size:=by rw[←D];exact J
  rw[X3,WM,if_pos A,Z1];rfl
 have hz:=je (8192- f.size);refine Rn.vv b (λo c=>bK (u:=qc (8192- f.size)) c (b.get (d:=79) rfl) (b.get (d:=84) rfl) o_) λa b=> ?_
 iterate 2 refine Rn.uc b λa b=> ?_
 refine Rn.vv b (λo c=>tA (n:=8192) c (b.get (d:=86) rfl) rfl (by rw[AS];omega)) λa b=> ?_;refine Rn.uc b λa b=> ?_;exact Rn.p rfl (C _ _ (aE F F.size Q) (b.only ⟨rfl,trivial⟩))
end
theorem Ph:Tryz.f27.body=some (.seq (rG Tryz.f27 0) (.seq (.seq (rG Tryz.f27 1) (.cond (.tmp 16) (rG Tryz.f27 2) .skip)) (MB Tryz.f27))):=k_
section
variable{id seed rt bd X1 X2:ByteArray}{nb q v en:Nat}{NL:List ByteArray}
theorem Dz(r:KS.length=64)(j:id.size=16)(c:seed.size<=140737488355320)(k:NL[1]?=some rt)(i:rt.size=32)(C:q<4)(F:NL[(4+q)^^^1]?=some X1)(E:NL[(4+q)/2^^^1]?=some X2)(B:X1.size=32)(A:X2.size=32)(p:bd.size<=500)(D:w0.rangeAt 0 0 (aH KS))(G:0<w0.heap.size)(J:Bw w0 w)(t:w.heap[w0.heap.size]?=some (.cells (gz id seed nb) 27))(u:w.heap[nb]?=some (.cells (NL.map Value.string).toArray 9))(b:aW [(1, .i q),(2, .i v),(3, .i en),(4, .s bd),(5, .pt w0.heap.size)] 88 [] a)
 (s:∀a w',Bw w0 w'->aW [(10, .s ((Fe KS id seed rt X1 X2 q v (LC en bd) bd).extract 0 8192))] 88 [] a->Rn lT Goal ((base 27).atR a [.code .ret]) cs w'):
 Rn lT Goal ((base 27).atR a [.code (MB Tryz.f27)]) cs w:=by
 have O:jx.size=4:=rfl;have N:(yc id rt).size=56:=pO id rt j i;refine Rn.uc b λa b=> ?_;refine Rn.vv b (λo d=>mS d (b.G 19)) λa b=> ?_;refine Rn.vv b (λo d=>dh (m:=84) d rfl (b.G 20) o_) λa b=> ?_;refine Rn.uc b λa b=> ?_;have b:aW [(1, .i q),(2, .i v),(3, .i en),(4, .s bd),(5, .pt w0.heap.size),(11, .i ((84+bd.size:Nat):Int))] 88 [] a:=b.only ⟨rfl,rfl,rfl,rfl,rfl,rfl,trivial⟩;refine Rn.p rfl (Rn.p rfl ?_);refine Rn.tabL b [(22, .i v),(23, .s (ob v 2)),(24, .s (jx++ob v 2)),(25, .i ((84+bd.size:Nat):Int)),(26, .s (ob (84+bd.size) 4)),(27, .s (jx++ob v 2++ob (84+bd.size) 4)),(28, .s (ob 80 4)),(29, .s (jx++ob v 2++ob (84+bd.size) 4++ob 80 4)),(30, .i ((84+bd.size:Nat):Int)),(31, .s (ob (84+bd.size) 4)),(32, .s (jx++ob v 2++ob (84+bd.size) 4++ob 80 4++ob (84+bd.size) 4)),(33, .s (ob 4364 4)),(34, .s (jx++ob v 2++ob (84+bd.size) 4++ob 80 4++ob (84+bd.size) 4++ob 4364 4)),(35, .agg (gz id seed nb)),(36, .s (yc id rt)),(37, .s (jx++ob v 2++ob (84+bd.size) 4++ob 80 4++ob (84+bd.size) 4++ob 4364 4++yc id rt)),(12, .s (jx++ob v 2++ob (84+bd.size) 4++ob 80 4++ob (84+bd.size) 4++ob 4364 4++yc id rt))] [22,25,30,12] [(12, .s (jx++ob v 2++ob (84+bd.size) 4++ob 80 4++ob (84+bd.size) 4++ob 4364 4++yc id rt))]
  ⟨λz=>z.c2 (z.k 22) kc (eG v 2 o_ _),
   λz=>dv (bK z.qq kc (z.k 23) (by simp only[aM];show jx.size+_<=_;omega)),
   λz=>z.c2 (z.k 25) kc (eG (84+bd.size) 4 o_ _),
   λz=>dv (bK z.qq (z.k 24) (z.k 26) (by first|(simp only[aM];omega)|(simp only[AS,aM];omega))),
   λz=>z.c2 kc kc (eG 80 4 o_ _),
   λz=>dv (bK z.qq (z.k 27) (z.k 28) (by first|(simp only[aM];omega)|(simp only[AS,aM];omega))),
   λz=>z.c2 (z.k 30) kc (eG (84+bd.size) 4 o_ _),
   λz=>dv (bK z.qq (z.k 29) (z.k 31) (by first|(simp only[aM];omega)|(simp only[AS,aM];omega))),
   λz=>z.c2 kc kc (eG 4364 4 o_ _),
   λz=>dv (bK z.qq (z.k 32) (z.k 33) (by first|(simp only[aM];omega)|(simp only[AS,aM];omega))),
   λz=>dv (fe z.qq (z.k 5) (bk z.b t)),
   λz=>z.c1 (z.k 35) (xo j (bk z.b u) k i),
   λz=>dv (bK z.qq (z.k 34) (z.k 36) (by first|(simp only[aM];omega)|(simp only[AS,aM];omega))),
   trivial⟩ λa M I b=> ?_
 have y:=aE J J.size I;have f:=bk I t;have g:=bk I u;refine Rn.uc b λa b=> ?_;refine Rn.vv b (λo d=>CS (n:=2) d (b.G 38) rfl o_) λa b=> ?_;refine Rn.vv b (λo d=>mU (n:=1) d (b.G 39) rfl) λa b=> ?_;refine Rn.uc b λa b=> ?_;by_cases l:en%2=1
 ·rw[show(((en%2:Nat):Int)==1)=true from by rw[l];rfl]at b;refine Rn.uc b λa b=> ?_;refine Rn.vv b (λo d=>mS d (b.G 42)) λa b=> ?_;refine Rn.vv b (λo d=>tB (n:=8) d (b.G 43) rfl) λa b=> ?_;refine Rn.vv b (λo d=>yY d (b.G 41) (b.G 44)) λa b=> ?_;refine Rn.p rfl (Rn.cond _ (b.G 45) ?_);by_cases K:8<bd.size
  ·rw[decide_eq_true o_];have x:LC en bd=84:=if_pos ⟨l,K⟩;rw[x]at s;have b:aW [(1, .i q),(2, .i v),(3, .i en),(4, .s bd),(5, .pt w0.heap.size),(11, .i ((84+bd.size:Nat):Int))] 88 [] a:=b.only ⟨rfl,rfl,rfl,rfl,rfl,rfl,trivial⟩;refine Rn.tabL b [(46, .i v),(47, .s (ob v 2)),(48, .s (jx++ob v 2)),(49, .i ((84+bd.size:Nat):Int)),(50, .s (ob (84+bd.size) 4)),(51, .s (jx++ob v 2++ob (84+bd.size) 4)),(52, .s (ob 84 4)),(53, .s (jx++ob v 2++ob (84+bd.size) 4++ob 84 4)),(54, .i ((84+bd.size:Nat):Int)),(55, .s (ob (84+bd.size) 4)),(56, .s (jx++ob v 2++ob (84+bd.size) 4++ob 84 4++ob (84+bd.size) 4)),(57, .s (ob 4364 4)),(58, .s (jx++ob v 2++ob (84+bd.size) 4++ob 84 4++ob (84+bd.size) 4++ob 4364 4)),(59, .agg (gz id seed nb)),(60, .s (yc id rt)),(61, .s (jx++ob v 2++ob (84+bd.size) 4++ob 84 4++ob (84+bd.size) 4++ob 4364 4++yc id rt)),(12, .s (jx++ob v 2++ob (84+bd.size) 4++ob 84 4++ob (84+bd.size) 4++ob 4364 4++yc id rt))] [46,49,54,12] [(12, .s (jx++ob v 2++ob (84+bd.size) 4++ob 84 4++ob (84+bd.size) 4++ob 4364 4++yc id rt))]
    ⟨λz=>z.c2 (z.k 46) kc (eG v 2 o_ _),
     λz=>dv (bK z.qq kc (z.k 47) (by simp only[aM];show jx.size+_<=_;omega)),
     λz=>z.c2 (z.k 49) kc (eG (84+bd.size) 4 o_ _),
     λz=>dv (bK z.qq (z.k 48) (z.k 50) (by first|(simp only[aM];omega)|(simp only[AS,aM];omega))),
     λz=>z.c2 kc kc (eG 84 4 o_ _),
     λz=>dv (bK z.qq (z.k 51) (z.k 52) (by first|(simp only[aM];omega)|(simp only[AS,aM];omega))),
     λz=>z.c2 (z.k 54) kc (eG (84+bd.size) 4 o_ _),
     λz=>dv (bK z.qq (z.k 53) (z.k 55) (by first|(simp only[aM];omega)|(simp only[AS,aM];omega))),
     λz=>z.c2 kc kc (eG 4364 4 o_ _),
     λz=>dv (bK z.qq (z.k 56) (z.k 57) (by first|(simp only[aM];omega)|(simp only[AS,aM];omega))),
     λz=>dv (fe z.qq (z.k 5) (bk z.b f)),
     λz=>z.c1 (z.k 59) (xo j (bk z.b g) k i),
     λz=>dv (bK z.qq (z.k 58) (z.k 60) (by first|(simp only[aM];omega)|(simp only[AS,aM];omega))),
     trivial⟩ λa L H b=> ?_
   exact xu (e:=84) r j c i p C F E B A D G (aE y y.size H) (bk H f) (bk H g) (b.only ⟨rfl,rfl,rfl,rfl,trivial⟩) s
  ·rw[decide_eq_false o_];have x:LC en bd=80:=if_neg λh=>K h.2;rw[x]at s;exact Rn.p rfl (xu (e:=80) r j c i p C F E B A D G y f g (b.only ⟨rfl,rfl,rfl,rfl,trivial⟩) s)
 ·rw[show(((en%2:Nat):Int)==1)=false from by rw[show en%2=0 by omega];rfl]at b
  iterate 3 refine Rn.us b λa b=> ?_
  refine Rn.vv b (λo d=>yZ d (b.G 41) rfl) λa b=> ?_;refine Rn.p rfl (Rn.cond _ (b.G 45) ?_);have x:LC en bd=80:=if_neg λh=>l h.1;rw[x]at s;exact Rn.p rfl (xu (e:=80) r j c i p C F E B A D G y f g (b.only ⟨rfl,rfl,rfl,rfl,trivial⟩) s)
end
section
variable{id seed rt X1 X2:ByteArray}{nb q:Nat}{NL:List ByteArray}
theorem vR(j:KS.length=64)(i:id.size=16)(c:seed.size<=140737488355320)(d:NL[1]?=some rt)(f:rt.size=32)(r:q<4)(y:NL[(4+q)^^^1]?=some X1)(x:NL[(4+q)/2^^^1]?=some X2)(p:X1.size=32)(m:X2.size=32)(v en:Nat)(B:ByteArray)(h:w.heap[nb]?=some (.cells (NL.map Value.string).toArray 9))(s:w.rangeAt 0 0 (aH KS))(z:0<w.heap.size):
 Calls lT 27 #[.agg (gz id seed nb), .i q, .i v, .i en, .s B] w λe w'=>e= .returned (.s ((Fe KS id seed rt X1 X2 q v (LC en (E1 B)) (E1 B)).extract 0 8192))/\Bw w w':=by
 refine bI (t:=10) Lf.func27 rfl λE=> ?_;rw[aZ (N:=88) [.agg (gz id seed nb), .i q, .i v, .i en, .s B] Lf.func27 Ph rfl];have b:=aQ [.agg (gz id seed nb), .i q, .i v, .i en, .s B] 88 s_;refine Rn.zz b λD a k A C b=> ?_
 iterate 2 refine Rn.uc b λa b=> ?_
 refine Rn.vv b (λo g=>mS g (b.G 14)) λa b=> ?_;refine Rn.vv b (λo g=>tB (n:=500) g (b.G 15) rfl) λa b=> ?_;refine Rn.p rfl (Rn.cond _ (b.G 16) ?_);by_cases u:500<B.size
 ·rw[decide_eq_true o_,show E1 B=B.extract 0 500 from if_pos u];refine Rn.uc b λa b=> ?_;refine Rn.vv b (λo g=>tA (n:=500) g (b.G 17) rfl o_) λa b=> ?_;refine Rn.uc b λa b=> ?_;exact Rn.p rfl (Dz j i c d f r y x p m (by rw[TT];omega) s z k A (bk k h) (b.only ⟨rfl,rfl,rfl,rfl,rfl,trivial⟩) λa w' l b=>Rn.fi b ⟨rfl,l⟩)
 ·rw[decide_eq_false o_,show E1 B=B from if_neg u];exact Rn.p rfl (Dz j i c d f r y x p m o_ s z k A (bk k h) (b.only ⟨rfl,rfl,rfl,rfl,rfl,trivial⟩) λa w' l b=>Rn.fi b ⟨rfl,l⟩)
end
end L1
section
open Go.Conc Go.RowKit
def Rv(KS:List Int)(id seed rt n3 l1 a:ByteArray):ByteArray:=(Fe KS id seed rt l1 n3 0 3 (LC 0 (E1 a)) (E1 a)).extract 0 8192
def Ru(KS:List Int)(id seed rt n3 l0 b:ByteArray):ByteArray:=(Fe KS id seed rt l0 n3 1 4 (LC 1 (E1 b)) (E1 b)).extract 0 8192
theorem OA(KS:List Int)(id seed rt b c a:ByteArray):(Rv KS id seed rt b c a).size<=8192:=by rw[Rv,TT];omega
theorem Oz(KS:List Int)(id seed rt a c b:ByteArray):(Ru KS id seed rt a c b).size<=8192:=by rw[Ru,TT];omega
def EB(KS:List Int)(id seed rt n3 l1 a:ByteArray)(has:Nat):ByteArray:=if has&&&1=1 then Rv KS id seed rt n3 l1 a else qc 8192
def Ga(KS:List Int)(id seed rt n3 l0 b:ByteArray)(has:Nat):ByteArray:=if has&&&2=2 then Ru KS id seed rt n3 l0 b else qc 8192
theorem NG(KS:List Int)(id seed rt c d a:ByteArray)(b:Nat):(EB KS id seed rt c d a b).size<=8192:=by
 unfold EB;split
 ·exact OA ..
 ·rw[je];omega
theorem NF(KS:List Int)(id seed rt c d b:ByteArray)(a:Nat):(Ga KS id seed rt c d b a).size<=8192:=by
 unfold Ga;split
 ·exact Oz ..
 ·rw[je];omega
end
namespace L1
open Go.Conc Go.RowKit
def Rr(f:Func):Code:= .seq (rG f 7) .ret
def Mz(f:Func):Code:= .seq (.seq (rG f 5) (.cond (.tmp 21) (rG f 6) .skip)) (Rr f)
theorem OY:Tryz.f11.body=some (.seq (rG Tryz.f11 0) (.seq (rG Tryz.f11 1) (.seq (rG Tryz.f11 2) (.seq (.seq (rG Tryz.f11 3) (.cond (.tmp 15) (rG Tryz.f11 4) .skip)) (Mz Tryz.f11))))):=k_
section
variable{id seed rt n2 n3 l0 l1 l2 l3:ByteArray}{nb:Nat}
theorem JP(r:KS.length=64)(m:id.size=16)(f:seed.size<=140737488355320)(G:rt.size=32)(F:n3.size=32)(O:l0.size=32)(M:l1.size=32)(c:Nat)(Y:c<4)(A B:ByteArray)(l:w.heap[nb]?=some (.cells ([⟨#[]⟩,rt,n2,n3,l0,l1,l2,l3].map Value.string).toArray 9))(S:w.rangeAt 0 0 (aH KS))(H:0<w.heap.size):
 Calls lT 11 #[.agg (gz id seed nb), .i c, .s A, .s B] w λe w'=>e= .returned (.s (EB KS id seed rt n3 l1 A c++Ga KS id seed rt n3 l0 B c))/\Bw w w':=by
 refine bI (t:=8) Lf.func11 rfl λI=> ?_;rw[aZ (N:=28) [.agg (gz id seed nb), .i c, .s A, .s B] Lf.func11 OY rfl];have b:=aQ [.agg (gz id seed nb), .i c, .s A, .s B] 28 s_;refine Rn.zz b λQ a u T L b=> ?_;refine Rn.uc b λa b=> ?_;refine Rn.cw b Lf.func26 (rB Q) λP E a b=> ?_;refine Rn.uc b λa b=> ?_;refine Rn.cw b Lf.func26 (rB P) λX K a b=> ?_;have j:=aE (aE u u.size E) (aE u u.size E).size K;have D:=bk K (bk E T);have b:aW [(1, .i c),(2, .s A),(3, .s B),(4, .pt w.heap.size),(9, .s (qc 8192)),(12, .s (qc 8192))] 28 [] a:=b.only ⟨rfl,rfl,rfl,rfl,rfl,rfl,trivial⟩
 iterate 2 refine Rn.uc b λa b=> ?_
 refine Rn.vv b (λo d=>ku (n:=1) d (b.G 13) rfl) λa b=> ?_;rw[show(1:Int)=((1:Nat):Int)from rfl,Tl c 1 o_ o_]at b;refine Rn.vv b (λo d=>mU (n:=1) d (b.G 14) rfl) λa b=> ?_;refine Rn.p rfl (Rn.cond _ (b.G 15) ?_);have s:∀{w':World},Bw w w'->w'.rangeAt 0 0 (aH KS)/\0<w'.heap.size:=λp=>⟨Ti H p S,TC H p.size⟩;have h:∀{a:Act} {w':World},Bw w w'->w'.heap[w.heap.size]?=some (.cells (gz id seed nb) 27)->aW [(1, .i c),(3, .s B),(4, .pt w.heap.size),(9, .s (EB KS id seed rt n3 l1 A c)),(10, .s (qc 8192))] 28 [] a->Rn lT (λg w'=>∃(a:Act) (k:List Item) (v:Value),g=cJ {(base 11).atR a k with mode:= .returning} I/\a.defers=[]/\a.tmps[8]?=some v/\Wx v= .returned (.s (EB KS id seed rt n3 l1 A c++Ga KS id seed rt n3 l0 B c))/\Bw w w') ((base 11).atR a [.code (Mz Tryz.f11)]) I w':=λ{a w'} i R b=>by
  have e1:=NG KS id seed rt n3 l1 A c;have Z:=NF KS id seed rt n3 l0 B c;refine Rn.uc b λa b=> ?_;refine Rn.vv b (λo d=>ku (n:=2) d (b.G 19) rfl) λa b=> ?_;rw[show(2:Int)=((2:Nat):Int)from rfl,Tl c 2 o_ o_]at b;refine Rn.vv b (λo d=>mU (n:=2) d (b.G 20) rfl) λa b=> ?_;refine Rn.p rfl (Rn.cond _ (b.G 21) ?_);by_cases x:c&&&2=2
  ·rw[show(((c&&&2:Nat):Int)==2)=true from by rw[x];rfl];refine Rn.vv b (λo d=>fe d (b.G 4) R) λa b=> ?_;refine Rn.uc b λa b=> ?_;refine Rn.cw b Lf.func27 (vR (q:=1) (X1:=l0) (X2:=n3) r m f rfl G o_ rfl rfl O F 4 1 B (bk i l) (s i).1 (s i).2) λV U a b=> ?_;have z:Ga KS id seed rt n3 l0 B c=Ru KS id seed rt n3 l0 B:=if_pos x;have b:aW [(9, .s (EB KS id seed rt n3 l1 A c)),(24, .s (Ga KS id seed rt n3 l0 B c))] 28 [] a:=by rw[z];exact b.only ⟨rfl,rfl,trivial⟩
   iterate 3 refine Rn.uc b λa b=> ?_
   refine Rn.vv b (λo d=>bK d (b.G 25) (b.G 26) o_) λa b=> ?_;refine Rn.uc b λa b=> ?_;exact Rn.fi b ⟨rfl,aE i i.size U⟩
  ·rw[show(((c&&&2:Nat):Int)==2)=false from by rw[beq_eq_false_iff_ne];omega];have z:Ga KS id seed rt n3 l0 B c=qc 8192:=if_neg x;have b:aW [(9, .s (EB KS id seed rt n3 l1 A c)),(10, .s (Ga KS id seed rt n3 l0 B c))] 28 [] a:=by rw[z];exact b.only ⟨rfl,rfl,trivial⟩
   iterate 2 refine Rn.uc b λa b=> ?_
   refine Rn.vv b (λo d=>bK d (b.G 25) (b.G 26) o_) λa b=> ?_;refine Rn.uc b λa b=> ?_;exact Rn.fi b ⟨rfl,i⟩
 by_cases y:c&&&1=1
 ·rw[show(((c&&&1:Nat):Int)==1)=true from by rw[y];rfl];refine Rn.vv b (λo d=>fe d (b.G 4) D) λa b=> ?_;refine Rn.uc b λa b=> ?_;refine Rn.cw b Lf.func27 (vR (q:=0) (X1:=l1) (X2:=n3) r m f rfl G o_ rfl rfl M F 3 0 A (bk j l) (s j).1 (s j).2) λW J a b=> ?_;refine Rn.uc b λa b=> ?_;have C:EB KS id seed rt n3 l1 A c=Rv KS id seed rt n3 l1 A:=if_pos y;exact Rn.p rfl (h (aE j j.size J) (bk J D) (by rw[C];exact b.only ⟨rfl,rfl,rfl,rfl,rfl,trivial⟩))
 ·rw[show(((c&&&1:Nat):Int)==1)=false from by rw[beq_eq_false_iff_ne];omega];have C:EB KS id seed rt n3 l1 A c=qc 8192:=if_neg y;exact Rn.p rfl (h j D (by rw[C];exact b.only ⟨rfl,rfl,rfl,rfl,rfl,trivial⟩))
end
end L1
section
open Go.Conc Go.RowKit
section
variable{b:Frame}{k:List Item}
theorem Rn.ve{i:List Item}{d:Tmp}{p:Op}{R:Value->World->Prop}{l:Option (Nat×Bool)}(j:aW F N ds a)(q:∀o:Oper,o.op=p->∃v w',(execOp a.eval o).run P w= .ok (.value v) w'/\R v w')(next:∀v w',R v w'->∀a',aW ((d,v)::F) N ds a'->Rn P Goal (b.atR a' (.inRegion ops rest::i)) cs w')(x:gk 6 (b.atR a k)= .inRegion ops (m::rest)::i:=by rfl)
 (h:(ops[m]?).map (λo=>(o.dst,o.op,o.guard))=some (some d,p,l):=by rfl) (r:gF ops F l=true:=by rfl) (s:d<N:=by decide) (f:nd p=true:=by rfl):Rn P Goal (b.atR a k) cs w:=by
 refine Rn.gr ?_ x;cases g:ops[m]? with
 |none=>rw[g]at h;cases h
 |some o=>
  rw[g]at h;simp only[Option.map_some,Option.some.injEq,Prod.mk.injEq]at h;obtain⟨z,n,y⟩:=h;obtain⟨v,w',u,t⟩:=q o n;refine Rn.ran g (lq j y r) (λc e=>by rw[←n,e]at f;cases f) u ?_;rw[z];exact next v w' t _ (j.put s v)
end
def dT(L:List Int):List Value:=L.map (Value.int .i64)
theorem vQ(L:List Int):∀u∈dT L,u.oneCell'=true:=by intro u a;obtain⟨_,_,rfl⟩:=Wh.1 a;rfl
def Mt(hs:ByteArray)(j:Nat):Nat:=(hs.data.toList.getD (2*j) 0).toNat*2^8|||(hs.data.toList.getD (2*j+1) 0).toNat
def Lm(hs:ByteArray)(on:Bool)(j:Nat):List Int:=(U5 j).map λx=>if on then((Mt hs x:Nat):Int)else 0
theorem Ig(hs:ByteArray)(on:Bool)(j:Nat):Lm hs on (j+1)=Lm hs on j++[if on then((Mt hs j:Nat):Int)else 0]:=by simp[Lm,List.range_succ]
end
namespace L1
open Go.Conc Go.RowKit
section
variable{y:Operand}
theorem J4{base gb:Nat}{L news:List Int}(b:w.ownsRow base 3 1 v n (dT L))(s:w.heap[gb]?=some (.cells (dT news).toArray 3))(q:news.length=m)(h:ev (.tmp k)=v)(g:ev (.tmp j)= .sk gb m m)(z:n+m<=1000)(f:base<=w.heap.size)(p:∀c,v.ownBlock=some c->base<=c)(o:Oper)(d:o.op= .call {callee:= .builtin .append,args:=#[.tmp k, .tmp j],argTypes:=#[22,22]}):
 ∃v' w',(execOp ev o).run lT w= .ok (.value v') w'/\w'.ownsRow base 3 1 v' (n+m) (dT (L++news))/\Below base w w':=by
 obtain⟨i,r,a⟩:=U1.1 (show(lT.info? 3).map (λi=>(i.zero,i.size,i.bytes))=some (some (.i 0),1,8) by kernel_rfl);simp only[Prod.mk.injEq]at a;obtain⟨v',w',y,x,t,_⟩:=run_append_own (P:=aI true tP) w base 22 o.type 3 i (.i 0) 1 8 k_ r a.1 a.2.1 a.2.2 rfl o_ v n (dT L) b ⟨gb,0,none⟩ m m (dT news) (by simp[dT,q]) (λj u l=>by rw[Uu,TL,aG s];simpa using l) (vQ news) (by unfold maxLen;omega) o_ f;refine⟨v',w', ?_,by rw[show dT (L++news)=dT L++dT news from VM ..];exact x,(Xd base w).grown t f p⟩;have e:execOp ev o=(do pure (.value (←VX #[22,22] o.type #[v, .sk gb m m]))):=by simp[execOp,d,resolve,h,g,invoke,builtin]
 rw[e];exact nM y
theorem O5{m:Int}(a:o.op= .buildSlice 22 1 #[(0,x)])(b:ev x= .i m):(execOp ev o).run lT w= .ok (.value (.sk w.heap.size 1 1)) (w.alloc (.cells #[.i m] 3)):=by
 have e:execOp ev o=(do pure (.value (←Uf 22 1 #[(0, .i m)]))):=by simp[execOp,a,b]
 have c:(do pure (.value (←Uf 22 1 #[(0, .i m)])):Sem Next).run lT w= .ok (.value (.sk w.heap.size 1 1)) (w.alloc (.cells #[.i m] 3)):=k_
 rw[e,c]
theorem Kw(d:m<256)(a:o.op= .binOp .shl 3 x y u)(c:ev x= .i m)(b:ev y= .int .u64 8):(execOp ev o).run lT w= .ok (.value (.i ((m*2^8:Nat):Int))) w:=by
 have e:U2.wrap ((m:Int)*256)=((m*256:Nat):Int):=by rw[TR];omega
 simp[execOp,a,c,b,go_sem,e]
theorem NU(f:m<100000)(d:n<100000)(a:o.op= .binOp .or 3 x y u)(c:ev x= .i m)(b:ev y= .i n):(execOp ev o).run lT w= .ok (.value (.i ((m|||n:Nat):Int))) w:=by have e:=oL m n o_ o_;simp[execOp,a,c,b,go_sem,e]
end
theorem qz{base:Nat}{xs:List Value}(h:w.ownsRow base 3 1 v n xs):∀c,v.ownBlock=some c->base<=c:=λc a=>by
 rcases h.2 with⟨rfl,_⟩|⟨f,e,d,rfl,b,_⟩
 ·cases a
 ·cases a;exact b
theorem qy{base:Nat}{xs:List Value}(h:w.ownsRow base 3 1 v n xs)(a:Bw w w'):w'.ownsRow base 3 1 v n xs:=
 h.kept (row:=none) ⟨a.os,a.tape,a.output,a.size,λk b _=>a.block k b⟩ (by cases v.ownBlock<;>simp)
end L1
section
open Go.Conc Go.RowKit
section
variable{S:Nat->Prop}{b:Frame}{k:List Item}
theorem aT.runs:∀(n:Nat) (k:List Item),aT P Post S (cJ (b.atR a (gk n (b.atR a k))) cs) w->aT P Post S (cJ (b.atR a k) cs) w
 |0,_,h=>h
 |n+1,k,h=>by
  unfold gk at h;split at h
  ·exact h
  ·split at h
   ·rename_i t c;exact aT.plain c (aT.runs n t h)
   ·exact h
theorem aT.gr{c:List Item}(next:aT P Post S (cJ (b.atR a (.inRegion ops (m::rest)::c)) cs) w)(h:gk 6 (b.atR a k)= .inRegion ops (m::rest)::c:=by rfl):aT P Post S (cJ (b.atR a k) cs) w:=aT.runs 6 k (by rw[h];exact next)
theorem aT.cond{A B:Code}(q:Bool)(c:a.eval x= .bool q)(h:aT P Post S (cJ (b.atR a (.code (if q then A else B)::k)) cs) w):aT P Post S (cJ (b.atR a (.code (.cond x A B)::k)) cs) w:=by
 refine aT.plain (t:= .code (if q then A else B)::k) ?_ h;have e:(b.atR a (.code (.cond x A B)::k)).eval x= .bool q:=by rw[Frame.eval_atR];exact c
 show(match (b.atR a (.code (.cond x A B)::k)).eval x with| .bool q=>some (Item.code (if q then A else B)::k)|_=>none)=_;rw[e]
theorem aT.vv{i:List Item}{d:Tmp}{p:Op}{s:Option (Nat×Bool)}(r:aW F N ds a)(n:∀(o:Oper) (c:Nat),o.op=p->Yl P a.eval o (w.at c) v es)(j:∀e∈es,EvL (dj S) w.heap.size e)(next:∀a',aW ((d,v)::F) N ds a'->aT P Post S (cJ (b.atR a' (.inRegion ops rest::i)) cs) w)(x:gk 6 (b.atR a k)= .inRegion ops (m::rest)::i:=by rfl)
 (h:(ops[m]?).map (λo=>(o.dst,o.op,o.guard))=some (some d,p,s):=by rfl) (t:gF ops F s=true:=by rfl) (u:d<N:=by decide) (f:nd p=true:=by rfl):aT P Post S (cJ (b.atR a k) cs) w:=by
 refine aT.gr ?_ x;cases g:ops[m]? with
 |none=>rw[g]at h;cases h
 |some o=>
  rw[g]at h;simp only[Option.map_some,Option.some.injEq,Prod.mk.injEq]at h;obtain⟨z,l,y⟩:=h;refine aT.oper g (lq r y t) (λc e=>by rw[←l,e]at f;cases f) λc=>⟨.value v,w.at c,(n o c l).1,rfl,Nat.le_refl _,λe q=>j e (by rw[(n o c l).2]at q;exact q),aT.at ?_ c⟩;show aT P Post S (cJ ((b.atR a (.inRegion ops (m::rest)::i)).finish v) cs) w;rw[Frame.finish_atR,g,Option.bind_some,z];exact next _ (r.put u v)
theorem aT.aa{k':List Item}{d:Tmp}{p:Op}{cells:Array Value}{u:Value}(hF:aW F N ds a)(hy:∀(o:Oper) (c:Nat),o.op=p->(execOp a.eval o).run P (w.at c)= .ok (.value u) ((w.at c).alloc (.cells cells t))/\(execOp a.eval o).events P (w.at c) #[]=#[])
 (next:∀w' a',Bw w w'->w'.heap[w.heap.size]?=some (.cells cells t)->w'.heap.size=w.heap.size+1->aW ((d,u)::F) N ds a'->aT P Post S (cJ (b.atR a' (.inRegion ops rest::k')) cs) w') (h0:gk 6 (b.atR a k)= .inRegion ops (m::rest)::k':=by rfl)
 (h:(ops[m]?).map (λo=>(o.dst,o.op,o.guard))=some (some d,p,none):=by rfl) (hd:d<N:=by decide) (hnd:nd p=true:=by rfl):aT P Post S (cJ (b.atR a k) cs) w:=by
 refine aT.gr ?_ h0;cases ho:ops[m]? with
 |none=>rw[ho]at h;cases h
 |some o=>
  rw[ho]at h;simp only[Option.map_some,Option.some.injEq,Prod.mk.injEq]at h;obtain⟨e1,e2,e3⟩:=h;refine aT.oper ho (by simp[Region.wanted,e3]) (λc e=>by rw[←e2,e]at hnd;cases hnd) λc=>⟨.value u,_,(hy o c e2).1,rfl,by rw[aR];exact Nat.le_succ _,λe he=>by rw[(hy o c e2).2]at he;simp at he, ?_⟩;show aT P Post S (cJ ((b.atR a (.inRegion ops (m::rest)::k')).finish u) cs) _;rw[Frame.finish_atR,ho,Option.bind_some,e1];have hat:Bw w (w.at c):=⟨rfl,rfl,rfl,Nat.le_refl _,λ_ _=>rfl⟩;exact next _ _ (hat.trans (aV (w.at c) _)) (bJ (w.at c) _) (aR (w.at c) _) (hF.put hd u)
theorem aT.ss{l:List Item}{p:Op}{r:Nat}{d:Nat->World}(t:aW F N ds a)(n:r<w.heap.size)(q:¬S r)(i:∀(o:Oper) (c:Nat),o.op=p->(execOp a.eval o).run P (w.at c)= .ok .skip (d c)/\(d c).heap.size=w.heap.size/\∀e∈(execOp a.eval o).events P (w.at c) #[],∃k,e=⟨.cell ⟨r,k,none⟩,true,false⟩)
 (next:∀c a',aW F N ds a'->aT P Post S (cJ (b.atR a' (.inRegion ops rest::l)) cs) (d c)) (u:gk 6 (b.atR a k)= .inRegion ops (m::rest)::l:=by rfl)
 (h:(ops[m]?).map (λo=>(o.dst,o.op,o.guard))=some (none,p,none):=by rfl) (f:nd p=true:=by rfl):aT P Post S (cJ (b.atR a k) cs) w:=by
 refine aT.gr ?_ u;cases j:ops[m]? with
 |none=>rw[j]at h;cases h
 |some o=>
  rw[j]at h;simp only[Option.map_some,Option.some.injEq,Prod.mk.injEq]at h;obtain⟨x,g,v⟩:=h;refine aT.oper j (by simp[Region.wanted,v]) (λc e=>by rw[←g,e]at f;cases f) λc=>⟨.skip,d c,(i o c g).1,rfl,Nat.le_of_eq (i o c g).2.1.symm,λe s=> ?_, ?_⟩
  ·obtain⟨k,rfl⟩:=(i o c g).2.2 e s;exact kb (by rw[(i o c g).2.1];exact n) q
  ·show aT P Post S (cJ ((b.atR a (.inRegion ops (m::rest)::l)).finish undef) cs) (d c);rw[Frame.finish_atR,j,Option.bind_some,x];exact next c _ t
theorem aT.cc{d:Tmp}{xs:Array Operand}{ats:Array TypeId}{vs:List Value}{j:List Item}(r:aW F N ds a)(u:P.funcs[f]?=some fn)
 (l:∀c':Frame,(∀t,c'.mode≠ .panicking t)->(∀(n:Nat->Prop) (w':World) (v:Value),(∀a',aW ((d,v)::F) N ds a'->aT P Post n (cJ (b.atR a' (.inRegion ops rest::j)) cs) w')->aT P Post n (cJ (c'.finish v) cs) w')->aT P Post S (bC P f vs.toArray (c'::cs)) w) (A:gk 6 (b.atR a k)= .inRegion ops (m::rest)::j:=by rfl)
 (h:(ops[m]?).map (λo=>(o.dst,o.op,o.guard))=some (some d, .call {callee:= .value (.func f),args:=xs,argTypes:=ats},none):=by rfl) (z:MN F xs.toList=some vs:=by rfl) (x:d<N:=by decide) (g:(fn.name== "runtime.NumGoroutine")=false:=by kernel_rfl) (y:fn.body.isNone=false:=by kernel_rfl):aT P Post S (cJ (b.atR a k) cs) w:=by
 refine aT.gr ?_ A;cases i:ops[m]? with
 |none=>rw[i]at h;cases h
 |some o=>
  rw[i]at h;simp only[Option.map_some,Option.some.injEq,Prod.mk.injEq]at h;obtain⟨C,s,B⟩:=h;refine aT.oper i (by simp[Region.wanted,B]) (λc e=>by rw[s]at e;cases e) λc=> ?_;have q:=bU (w:=w.at c) s (by rw[←tZ r _ _ z,←Array.toList_map,Array.toArray_toList]) (du u g y vs.toArray);refine⟨.enter f vs.toArray,w.at c,q.1,rfl,Nat.le_refl _,λe p=>by rw[q.2]at p;simp at p,aT.at ?_ c⟩;refine l (b.atR a (.inRegion ops (m::rest)::j)) (λt e=>by cases e) λn w' v next=> ?_
  rw[Frame.finish_atR,i,Option.bind_some,C];exact next _ (r.put x v)
end
section
variable{y z:Operand}
theorem uW(a:o.op= .move x)(b:ev x=v):Yl P ev o w v #[]:=b▸cn P (.inl a)
theorem Ms(a:o.op= .assign x)(b:ev x=v):Yl P ev o w v #[]:=b▸cn P (.inr a)
theorem QD{vs:Array Value}(a:o.op= .extract x i)(b:ev x= .tuple vs)(hv:vs[i]?=some v):Yl P ev o w v #[]:=⟨ru a b hv,by simp[execOp,a,b,hv,go_sem]⟩
theorem Tz(a:o.op= .pick x y z)(c:ev x= .bool true)(b:ev y=v):Yl tP ev o w v #[]:=by constructor<;>simp[execOp,a,c,b,asBool]
theorem Qz(a:o.op= .pick x y z)(c:ev x= .bool false)(b:ev z=v):Yl tP ev o w v #[]:=by constructor<;>simp[execOp,a,c,b,asBool]
theorem Nf(a:o.op= .binOp .eql 33 x y u)(d:ev x= .pk b 0)(c:ev y= .pointer none):Yl tP ev o w (.bool false) #[]:=by
 have e:execOp ev o=(do pure (.value (←(do eqGuard .eql 33 x y (.pk b 0) (.pointer none);binOp .eql 33 (.pk b 0) (.pointer none))))):=by simp only[execOp,a,d,c]
 unfold Yl;rw[e];constructor<;>kernel_rfl
theorem Tv(a:o.op= .binOp .neq 33 x y u)(d:ev x= .pk b 0)(c:ev y= .pointer none):Yl tP ev o w (.bool true) #[]:=by
 have e:execOp ev o=(do pure (.value (←(do eqGuard .neq 33 x y (.pk b 0) (.pointer none);binOp .neq 33 (.pk b 0) (.pointer none))))):=by simp only[execOp,a,d,c]
 unfold Yl;rw[e];constructor<;>kernel_rfl
theorem QB(j:Nat)(d:j<5)(a:o.op= .fieldAddr 36 x j)(c:ev x= .pk b 0):Yl tP ev o w (.pk b j) #[]:=by
 have e:execOp ev o=(do pure (.value (←TS 36 (.pk b 0) j))):=by simp only[execOp,a,c]
 unfold Yl;rw[e];rcases(o_:j=0\/j=1\/j=2\/j=3\/j=4)with rfl|rfl|rfl|rfl|rfl<;>constructor<;>kernel_rfl
theorem Tw{m n:Int}(a:o.op= .binOp .eql 34 x y u)(c:ev x= .i m)(b:ev y= .i n):Yl tP ev o w (.bool (m==n)) #[]:=by constructor<;>simp[execOp,a,c,b,go_sem]
theorem Nb{p:Option Addr}{c:Nat}(a:o.op= .call {callee:= .builtin .len,args:=#[.tmp k],argTypes:=#[22]})(b:ev (.tmp k)= .slice p l c):Yl tP ev o w (.i l) #[]:=by
 have d:Tryz.prog.underlying 22=some (.slice 3):=k_
 constructor<;>simp[execOp,a,resolve,b,invoke,builtin,Builtin.len_,run_underlying d,goInt]
theorem CJ{a:Addr}{len cap:Nat}(b:o.op= .indexAddr 22 x y)(d:ev x= .slice (some a) len cap)(c:ev y= .i n)(f:n<len):Yl tP ev o w (.pointer (some (a.add n))) #[]:=eA (e:=3) k_ (λw=>k_) b d c f
theorem Bu:xZ tP 4:=λw=>⟨k_,k_⟩
theorem Hq:xZ tP 34:=λw=>⟨k_,k_⟩
end
end
section
open Go.RowKit
def iJ:List Int:=[1116352408,1899447441,3049323471,3921009573,961987163,1508970993,2453635748,2870763221,3624381080,310598401,607225278,1426881987,1925078388,2162078206,2614888103,3248222580,3835390401,4022224774,264347078,604807628,770255983,1249150122,1555081692,1996064986,2554220882,2821834349,2952996808,3210313671,3336571891,3584528711,113926993,338241895,666307205,773529912,1294757372,1396182291,1695183700,1986661051,2177026350,2456956037,2730485921,2820302411,3259730800,3345764771,3516065817,3600352804,4094571909,275423344,430227734,506948616,659060556,883997877,958139571,1322822218,1537002063,1747873779,1955562222,2024104815,2227730452,2361852424,2428436474,2756734187,3204031479,3329325298]
theorem dn:iJ.length=64:=by decide+kernel
theorem EE:gV iJ []=[227,176,196,66,152,252,28,20,154,251,244,200,153,111,185,36,39,174,65,228,100,155,147,76,164,149,153,27,120,82,184,85]:=by decide+kernel
theorem Ka:gV iJ [97,98,99]=[186,120,22,191,143,1,207,234,65,65,64,222,93,174,34,35,176,3,97,163,150,23,122,156,180,16,255,97,242,0,21,173]:=by decide+kernel
end
namespace L1
open Go.RowKit
theorem Fa(w:World)(g:w.rangeAt 0 0 (aH iJ))(m:0<w.heap.size):
 Calls lT 8 #[] w λe w'=>e= .returned (.bool true)/\Bw w w':=by
 have f:=gh iJ ⟨#[]⟩ w g dn d_;have k:gV iJ (ByteArray.mk #[]).data.toList=[227,176,196,66,152,252,28,20,154,251,244,200,153,111,185,36,39,174,65,228,100,155,147,76,164,149,153,27,120,82,184,85]:=EE;rw[k]at f;have p:Hid (Calls _ _ _ _ _):=f;have n:Hid (w.rangeAt 0 0 (aH iJ)):=g;clear f k g
 go_enter Lf.func8,Tryz.ntmps8
 go_wp2_with fail
 refine p.out.mono ?_;rintro e i ⟨rfl,a⟩;have d:=gh iJ ⟨#[97,98,99]⟩ i (bB a m n.out) dn d_;have j:gV iJ (ByteArray.mk #[97,98,99]).data.toList=[186,120,22,191,143,1,207,234,65,65,64,222,93,174,34,35,176,3,97,163,150,23,122,156,180,16,255,97,242,0,21,173]:=Ka;rw[j]at d;have o:Hid (Calls _ _ _ _ _):=d;have c:Hid (Bw w i):=a;clear d j a
 go_wp2_with fail
 refine o.out.mono ?_;rintro e l ⟨rfl,b⟩;have h:Hid (Bw w l):=c.out.trans (b.mono c.out.size);clear b
 go_wp2
 go_ret
 exact⟨rfl,h.out⟩
end L1
section
open Go.Conc Go.RowKit
theorem aT.low{S:Nat->Prop}(h:(∀r,S r->r<w.heap.size)->aT P Post S g w):aT P Post S g w:=λe d b t q a=>h (λr c=>a.low r c) e d b t q a
structure Hd (W:World) (S D:Nat->Prop) (w:World):Prop where
 two:2<=W.heap.size
 old:Bw W w
 shun:∀r,S r->W.heap.size<=r
 own:∀r,D r->W.heap.size<=r/\¬S r/\∃o,w.heap[r]?=some o/\nG D o
structure Ow (W:World) (S D:Nat->Prop) (w:World) (x:Nat) (o:Obj):Prop where
 new:W.heap.size<=x
 ours:¬S x
 out:¬D x
 lies:w.heap[x]?=some o
def Mp(R:(Nat->Prop)->Value->World->Prop):Prop:=
 (∀E v w,R E v w->R (λ_=>True) v w)/\∀(D:Nat->Prop) (ρ:Nat->Nat) (w w':World) (v:Value),cI 2 0 D ρ w w'->(∀ρ',aS 2 D ρ ρ'->aD ρ' v=aD ρ v)->R (λ_=>True) v w->R (λr=>∃b,D b/\ρ b=r) (aD ρ v) w'
theorem Hd.call{W:World}{S:Nat->Prop}{c:Code}{t:Option Tmp}{u:Option (Bool×Tmp)}{R:(Nat->Prop)->Value->World->Prop}{c':Frame}{cs':List Frame}(a:Hd W S D w)(hf:Tryz.prog.funcs[f]?=some fn)(d:fn.body=some c)(Z:oa f c=true)
 (K:∀v G tmps (w:World),iV t u n v G tmps w->(results fn tmps).run tP w= .ok v w/\∀e∈(results fn tmps).events tP w #[],t.isSome=true/\∃k,e=⟨.cell ⟨G,k,none⟩,false,false⟩) (A:∀v G tmps (w:World),iV t u n v G tmps w->(results fn tmps).run lT w= .ok v w) (hR:Mp R)
 (a1:∀ch,c'.mode≠ .panicking ch) (hne:dm f=0) (a0:f≠105) (p:oO f=false) (ha:∀H,aS 2 D id H->args=args.map (aD H))
 (hK:W.rangeAt 0 0 (aH KS)) (a2:KS.length=64) (I:∃T e z,(∀v∈T,bQ v=true)/\W.heap[0]?=some (.cells T e z))
 (hC:∀wL:World,wL.rangeAt 0 0 (aH KS)->2<=wL.heap.size->(∀b,D b->wL.heap[b]?=w.heap[b]?)->Rn lT (λg w'=>nF f t u n (λE v w=>R E v w/\∀b,D b->w.heap[b]?=wL.heap[b]?) g w'/\∃fr',g=cJ fr' []) (TJ lT f args .normal) [] wL)
 (C:∀(s E:Nat->Prop) (w':World) (v:Value),R E v w'->Hd W s E w'->(∀b,D b->E b)->w.heap.size<=w'.heap.size->(∀r,r<w.heap.size->¬S r->w'.heap[r]?=w.heap[r]?/\¬s r)->(∀x o,Ow W S D w x o->Ow W s E w' x o)->aT tP Post s (cJ (c'.finish v) cs') w'):
 aT tP Post S (bC tP f args (c'::cs')) w:=by
 have hz:=a.old.size;have h2:=a.two;have n0:∀r,r<W.heap.size->¬S r:=λr q i=>by have:=a.shun r i;omega
 refine II (t:=t) (u:=u) (n:=n) (Q:=λE v P=>R E v P/\∀b,D b->P.heap[b]?=w.heap[b]?) (D0:=D) (KS:=KS) hf d Z K A ⟨λE v w h=>⟨hR.1 E v w h.1,h.2⟩,λD1 U P w2 v N hD Y L=>⟨hR.2 D1 U P w2 v N Y L.1,λb d=> ?_⟩⟩ a1 (.inl hne) a0 p ha o_ (λb d=> ?_) (λr l=>by have:=a.shun r l;omega) (λj v hj=> ?_) a2 ?_ (λwL k1 k2 k3=> ?_) λs E w' v L hE a4 M O a5 J F B=> ?_
 ·obtain⟨_,_,o,m,y⟩:=a.own b d;have q3:=L.2 b d;rw[m]at q3;obtain⟨o',r1,_,r3⟩:=N.obj b (hD b d).1;rw[q3]at r1;cases r1;have r4:=r3 U N.self;rw[(hD b d).2]at r4;rw[m,r4,y.2 U ⟨⟨N.inj,N.glob⟩,λb d=>(hD b d).2⟩]
 ·obtain⟨q0,m,y⟩:=a.own b d;exact⟨o_,m,y⟩
 ·have:=hK j v hj;unfold U6 at this⊢;rw[a.old.block _ (show 0<W.heap.size by omega)];exact this
 ·obtain⟨T,e,z,m,y⟩:=I;exact⟨T,e,z,m,(a.old.block 0 o_).trans y⟩
 ·obtain⟨g',w',q,⟨s1,s2,s3,s4,s5,s6,s7,v,G,s8,s9,V⟩,i⟩:=hC wL k1 k2 k3;exact⟨g',w',q,⟨s1,s2,s3,s4,s5,s6,s7,v,G,s8,s9,λb d=>(V b d).trans (k3 b d)⟩,i⟩
 ·have X:∀r,r<w.heap.size->¬S r->w'.heap[r]?=w.heap[r]?:=λr q i=>by
   by_cases hd:D r
   ·exact L.2 r hd
   ·exact F r q hd i
  have ns:∀r,r<w.heap.size->¬S r->¬s r:=λr q i h4=>by
   rcases O r h4 with h5|h5
   ·omega
   ·exact i h5
  have a3:Hd W s E w':=⟨h2,⟨B.1.trans a.old.os,B.2.2.trans a.old.tape,B.2.1.trans a.old.output,TW hz J,λr l=>(X r o_ (n0 r l)).trans (a.old.block r l)⟩,λr l=>(O r l).elim (λh=>o_) (a.shun r),λr l=> ?_⟩
  ·refine C s E w' v L.1 a3 a4 J (λr q i=>⟨X r q i,ns r q i⟩) λx o p=> ?_;have hl:=aK p.lies;exact⟨p.new,ns x hl p.ours,λh=>(M x h).elim p.out λh=>o_,(X x hl p.ours).trans p.lies⟩
  ·obtain⟨_,m,y⟩:=hE r l;refine⟨?_,m,y⟩;rcases M r l with h|h
   ·exact(a.own r h).1
   ·omega
end
namespace L1
open Go.Conc Go.RowKit
def Ld(f:Func):Code:= .seq (.seq (rG f 14) (.cond (.tmp 53) .skip (.exit 2))) (.seq (.block 3 (.seq (rG f 16) (.seq (.seq (rG f 17) (.cond (.tmp 63) (rD f 18) .skip)) (rG f 19)))) (rG f 15))
section
variable{hs:ByteArray}{kk us:Nat}{L:List Int}
theorem Lu(k:hs.size=32)(M:L.length<=100)
 (E:∀a w' v,Bw w0 w'->w'.ownsRow w0.heap.size 3 1 v (L.length+16) (dT (L++Lm hs (decide (i=kk)) 16))->aW [(2, .i kk),(3, .s hs),(4, .i us),(13, .i i),(12,v)] 82 [] a->Rn lT Goal ((base 12).atR a K) cs w'):
 ∀(m j:Nat) (a:Act) (w:World) (v:Value),16- j=m->j<=16->Bw w0 w->w.ownsRow w0.heap.size 3 1 v (L.length+j) (dT (L++Lm hs (decide (i=kk)) j))->aW [(2, .i kk),(3, .s hs),(4, .i us),(13, .i i),(12,v),(16, .i j)] 82 [] a->Rn lT Goal ((base 12).atR a (.code (Ld Tryz.f12):: .inLoop (Ld Tryz.f12):: .inBlock 2::K)) cs w:=by
 intro m;induction m with
 |zero=>
  intro j a w v I J h c b;refine Rn.uc b λa b=> ?_;refine Rn.vv b (λo c=>(di (ql:=true) (n:=16) c (b.G 52) rfl).1) λa b=> ?_;refine Rn.p rfl (Rn.cond _ (b.G 53) ?_);rw[decide_eq_false o_];obtain rfl:j=16:=o_
  exact Rn.p rfl (E _ _ _ h c (b.only ⟨rfl,rfl,rfl,rfl,rfl,trivial⟩))
 |succ m G=>
  intro j a w v I J h c b;refine Rn.uc b λa b=> ?_;refine Rn.vv b (λo c=>(di (ql:=true) (n:=16) c (b.G 52) rfl).1) λa b=> ?_;refine Rn.p rfl (Rn.cond _ (b.G 53) ?_);rw[decide_eq_true o_];have d:∀{a:Act} {w':World} (x:Int),x=(if decide (i=kk)then((Mt hs j:Nat):Int)else 0)->Bw w w'->aW [(2, .i kk),(3, .s hs),(4, .i us),(13, .i i),(12,v),(16, .i j),(17, .i x)] 82 [] a->Rn lT Goal ((base 12).atR a (.code (rG Tryz.f12 19):: .inBlock 3:: .code (rG Tryz.f12 15):: .inLoop (Ld Tryz.f12):: .inBlock 2::K)) cs w':=λ{a w'} x H g b=>by
   have A:=aE h h.size g
   iterate 2 refine Rn.uc b λa b=> ?_
   refine Rn.al b (λo c=>O5 c (b.G 78)) λR a u N Q b=> ?_;have f:=qy (qy c g) u;have y:=aE A A.size u;have D:=y.size;refine Rn.ve b (λo l=>J4 (m:=1) (news:=[x]) f N rfl (b.G 77) (b.G 79) o_ D (qz f) o l) λC B ⟨q,O⟩ a b=> ?_;refine Rn.uc b λa b=> ?_;refine Rn.uc b λa b=> ?_;refine Rn.vv b (λo c=>dh (n:=1) c (b.G 54) rfl o_) λa b=> ?_;refine Rn.uc b λa b=> ?_;refine Rn.p rfl (Rn.p rfl (G (j+1) _ B C o_ o_ (y.trans O) ?_ (b.only ⟨rfl,rfl,rfl,rfl,rfl,rfl,trivial⟩)));rw[Ig,←H,←VT];exact q
  iterate 3 refine Rn.uc b λa b=> ?_
  refine Rn.vv b (λo c=>mU c (b.G 56) (b.G 57)) λa b=> ?_;refine Rn.uc b λa b=> ?_;by_cases e:i=kk
  ·rw[show((i:Int)==(kk:Int))=true from by rw[e];simp]at b;refine Rn.uc b λa b=> ?_;refine Rn.vv b (λo c=>mS c (b.G 60)) λa b=> ?_;rw[k]at b;refine Rn.vv b (λo c=>mU (m:=32) (n:=32) c (b.G 61) rfl) λa b=> ?_;rw[show((32:Int)==32)=true from rfl]at b;refine Rn.vv b (λo c=>yY c (b.G 59) (b.G 62)) λa b=> ?_;refine Rn.p rfl (Rn.cond _ (b.G 63) ?_);have b:aW [(2, .i kk),(3, .s hs),(4, .i us),(13, .i i),(12,v),(16, .i j)] 82 [] a:=b.only ⟨rfl,rfl,rfl,rfl,rfl,rfl,trivial⟩;have t:∀p (s:p<hs.size),hs[p].toNat=(hs.data.toList.getD p 0).toNat:=λp s=>by rw[TV,VG,TH (by exact s)];rfl
   have r:=(hs.data.toList.getD (2*j) 0).toNat_lt;have F:=(hs.data.toList.getD (2*j+1) 0).toNat_lt;refine Rn.tabL b [(64, .s hs),(65, .i j),(66, .i ((2*j:Nat):Int)),(67, .int .u8 (((hs.data.toList.getD (2*j) 0).toNat:Nat):Int)),(68, .i (((hs.data.toList.getD (2*j) 0).toNat:Nat):Int)),(69, .i (((hs.data.toList.getD (2*j) 0).toNat*2^8:Nat):Int)),(70, .s hs),(71, .i j),(72, .i ((2*j:Nat):Int)),(73, .i ((2*j+1:Nat):Int)),(74, .int .u8 (((hs.data.toList.getD (2*j+1) 0).toNat:Nat):Int)),(75, .i (((hs.data.toList.getD (2*j+1) 0).toNat:Nat):Int)),(76, .i ((Mt hs j:Nat):Int)),(17, .i ((Mt hs j:Nat):Int))] [64,65,70,71,17] [(17, .i ((Mt hs j:Nat):Int))]
    ⟨λz=>dv (jW (m:=2) z.qq kc (z.k 65) o_),
     λz=>Qv (pw z.qq (z.k 64) (z.k 66) o_) (by rw[t]),
     λz=>dv (tC r z.qq (z.k 67)),
     λz=>dv (Kw r z.qq (z.k 68) kc),
     λz=>dv (jW (m:=2) z.qq kc (z.k 71) o_),
     λz=>dv (dh (n:=1) z.qq (z.k 72) kc o_),
     λz=>Qv (pw z.qq (z.k 70) (z.k 73) o_) (by rw[t]),
     λz=>dv (tC F z.qq (z.k 74)),
     λz=>dv (NU o_ o_ z.qq (z.k 69) (z.k 75)),
     trivial⟩ λa S P b=> ?_
   exact d ((Mt hs j:Nat):Int) (by rw[decide_eq_true e];rfl) P (b.only ⟨rfl,rfl,rfl,rfl,rfl,rfl,rfl,trivial⟩)
  ·rw[show((i:Int)==(kk:Int))=false from by rw[beq_eq_false_iff_ne];omega]at b
   iterate 3 refine Rn.us b λa b=> ?_
   refine Rn.vv b (λo c=>yZ c (b.G 59) rfl) λa b=> ?_;refine Rn.p rfl (Rn.cond _ (b.G 63) ?_);exact Rn.p rfl (d 0 (by rw[decide_eq_false e];rfl) (bR) (b.only ⟨rfl,rfl,rfl,rfl,rfl,rfl,rfl,trivial⟩))
end
end L1
section
open Go.Conc Go.RowKit
def Dj(kk us i:Nat):Int:=if i=kk/\us≠1 then 4080 else 61455
def lp(kk us i:Nat):Int:=if i=kk/\us=2 then 4080 else 61455
def SJ(kk us:Nat)(hs:ByteArray)(i:Nat):List Int:=[Dj kk us i,Dj kk us i,lp kk us i,lp kk us i]++Lm hs (decide (i=kk)) 16
def yd(st vv:Int)(kk us:Nat)(hs:ByteArray):Nat->List Int
 |0=>[st,st,vv,vv,vv]
 |i+1=>yd st vv kk us hs i++SJ kk us hs i
theorem mi(st vv:Int)(kk us:Nat)(hs:ByteArray):∀i,(yd st vv kk us hs i).length=5+20*i
 |0=>rfl
 |i+1=>by rw[yd,UT,mi st vv kk us hs i];simp[SJ,Lm];omega
end
namespace L1
open Go.Conc Go.RowKit
theorem O4{m n:Int}{f d c b:Nat}(a:o.op= .buildSlice 22 4 #[(0, .tmp f),(1, .tmp d),(2, .tmp c),(3, .tmp b)])(k:ev (.tmp f)= .i m)(j:ev (.tmp d)= .i m)(i:ev (.tmp c)= .i n)(h:ev (.tmp b)= .i n):(execOp ev o).run lT w= .ok (.value (.sk w.heap.size 4 4)) (w.alloc (.cells (dT [m,m,n,n]).toArray 3)):=by
 have e:execOp ev o=(do pure (.value (←Uf 22 4 #[(0, .i m),(1, .i m),(2, .i n),(3, .i n)]))):=by simp[execOp,a,k,j,i,h]
 have g:(do pure (.value (←Uf 22 4 #[(0, .i m),(1, .i m),(2, .i n),(3, .i n)])):Sem Next).run lT w= .ok (.value (.sk w.heap.size 4 4)) (w.alloc (.cells (dT [m,m,n,n]).toArray 3)):=k_
 rw[e,g]
def R6(f:Func):Code:= .seq (rG f 12) (.seq (rG f 13) (.block 2 (.loop (Ld f))))
def R7(f:Func):Code:= .seq (.seq (rG f 10) (.cond (.tmp 44) (rG f 11) .skip)) (R6 f)
def BI(f:Func):Code:= .seq (.seq (rG f 4) (.cond (.tmp 28) .skip (.exit 0))) (.seq (.block 1 (.seq (rG f 6) (.seq (rG f 7) (.seq (.seq (rG f 8) (.cond (.tmp 37) (rG f 9) .skip)) (R7 f))))) (rG f 5))
def Rt(f:Func):Code:= .seq (rG f 20) .ret
theorem Pl:Tryz.f12.body=some (.seq (rG Tryz.f12 0) (.seq (rG Tryz.f12 1) (.seq (rG Tryz.f12 2) (.seq (.seq (rG Tryz.f12 3) (.block 0 (.loop (BI Tryz.f12)))) (Rt Tryz.f12))))):=k_
section
variable{hs:ByteArray}{kk us:Nat}{st vv:Int}
theorem pR(l:hs.size=32)(I:i<4)(s:Bw w0 w)(c:w.ownsRow w0.heap.size 3 1 v (yd st vv kk us hs i).length (dT (yd st vv kk us hs i)))(b:aW [(2, .i kk),(3, .s hs),(4, .i us),(13, .i i),(12,v)] 82 [] a)
 (z:∀a w' v,Bw w0 w'->w'.ownsRow w0.heap.size 3 1 v (yd st vv kk us hs (i+1)).length (dT (yd st vv kk us hs (i+1)))->aW [(2, .i kk),(3, .s hs),(4, .i us),(13, .i ((i+1:Nat):Int)),(12,v)] 82 [] a->Rn lT Goal ((base 12).atR a (.code (BI Tryz.f12):: .inLoop (BI Tryz.f12):: .inBlock 0::K)) cs w'):
 Rn lT Goal ((base 12).atR a (.code (BI Tryz.f12):: .inLoop (BI Tryz.f12):: .inBlock 0::K)) cs w:=by
 have k:=mi st vv kk us hs i;have H:=s.size;have f:∀{a:Act},aW [(2, .i kk),(3, .s hs),(4, .i us),(13, .i i),(12,v),(14, .i (Dj kk us i)),(15, .i (lp kk us i))] 82 [] a->Rn lT Goal ((base 12).atR a (.code (R6 Tryz.f12):: .inBlock 1:: .code (rG Tryz.f12 5):: .inLoop (BI Tryz.f12):: .inBlock 0::K)) cs w:=λ{a} b=>by
  iterate 5 refine Rn.uc b λa b=> ?_
  refine Rn.al b (λo c=>O4 c (b.G 46) (b.G 47) (b.G 48) (b.G 49)) λF a t A D b=> ?_;have j:=qy c t;have u:=aE s s.size t;refine Rn.ve b (λo p=>J4 (m:=4) (news:=[Dj kk us i,Dj kk us i,lp kk us i,lp kk us i]) j A rfl (b.G 45) (b.G 50) o_ u.size (qz j) o p) λy x ⟨r,B⟩ a b=> ?_
  iterate 2 refine Rn.uc b λa b=> ?_
  refine Rn.runs 3 _ ?_;refine Lu (L:=yd st vv kk us hs i++[Dj kk us i,Dj kk us i,lp kk us i,lp kk us i]) l (by rw[UT,k];simp;omega) (λa E G C q b=> ?_) 16 0 _ x y rfl o_ (u.trans B) (by rw[UT];simpa[Lm]using r) (b.only ⟨rfl,rfl,rfl,rfl,rfl,rfl,trivial⟩);refine Rn.p rfl ?_;refine Rn.uc b λa b=> ?_;refine Rn.vv b (λo c=>dh (n:=1) c (b.G 29) rfl o_) λa b=> ?_;refine Rn.uc b λa b=> ?_;refine Rn.p rfl (Rn.p rfl (z _ _ _ C ?_ (b.only ⟨rfl,rfl,rfl,rfl,rfl,trivial⟩)));rw[yd,SJ,←VT,UT];simpa[Lm]using q
 have g:∀{a:Act},aW [(2, .i kk),(3, .s hs),(4, .i us),(13, .i i),(12,v),(14, .i (Dj kk us i)),(15, .i 61455)] 82 [] a->Rn lT Goal ((base 12).atR a (.code (R7 Tryz.f12):: .inBlock 1:: .code (rG Tryz.f12 5):: .inLoop (BI Tryz.f12):: .inBlock 0::K)) cs w:=λ{a} b=>by
  iterate 2 refine Rn.uc b λa b=> ?_
  refine Rn.vv b (λo c=>mU c (b.G 38) (b.G 39)) λa b=> ?_;refine Rn.uc b λa b=> ?_;by_cases d:i=kk
  ·rw[show((i:Int)==(kk:Int))=true from by rw[d];simp]at b;refine Rn.uc b λa b=> ?_;refine Rn.vv b (λo c=>mU (n:=2) c (b.G 42) rfl) λa b=> ?_;refine Rn.vv b (λo c=>yY c (b.G 41) (b.G 43)) λa b=> ?_;refine Rn.p rfl (Rn.cond _ (b.G 44) ?_);by_cases e:us=2
   ·rw[show((us:Int)==2)=true from by rw[e];rfl];refine Rn.uc b λa b=> ?_;exact Rn.p rfl (f (by rw[show lp kk us i=4080 from if_pos ⟨d,e⟩];exact b.only ⟨rfl,rfl,rfl,rfl,rfl,rfl,rfl,trivial⟩))
   ·rw[show((us:Int)==2)=false from by rw[beq_eq_false_iff_ne];omega];exact Rn.p rfl (f (by rw[show lp kk us i=61455 from if_neg λh=>e h.2];exact b.only ⟨rfl,rfl,rfl,rfl,rfl,rfl,rfl,trivial⟩))
  ·rw[show((i:Int)==(kk:Int))=false from by rw[beq_eq_false_iff_ne];omega]at b
   iterate 2 refine Rn.us b λa b=> ?_
   refine Rn.vv b (λo c=>yZ c (b.G 41) rfl) λa b=> ?_;refine Rn.p rfl (Rn.cond _ (b.G 44) ?_);exact Rn.p rfl (f (by rw[show lp kk us i=61455 from if_neg λh=>d h.1];exact b.only ⟨rfl,rfl,rfl,rfl,rfl,rfl,rfl,trivial⟩))
 refine Rn.uc b λa b=> ?_;refine Rn.vv b (λo c=>(di (ql:=true) (n:=4) c (b.G 27) rfl).1) λa b=> ?_;refine Rn.p rfl (Rn.cond _ (b.G 28) ?_);rw[decide_eq_true o_]
 iterate 4 refine Rn.uc b λa b=> ?_
 refine Rn.vv b (λo c=>mU c (b.G 31) (b.G 32)) λa b=> ?_;refine Rn.uc b λa b=> ?_;by_cases d:i=kk
 ·rw[show((i:Int)==(kk:Int))=true from by rw[d];simp]at b;refine Rn.uc b λa b=> ?_;refine Rn.vv b (λo c=>Be (n:=1) c (b.G 35) rfl) λa b=> ?_;refine Rn.vv b (λo c=>yY c (b.G 34) (b.G 36)) λa b=> ?_;refine Rn.p rfl (Rn.cond _ (b.G 37) ?_);by_cases e:us=1
  ·rw[show((us:Int) !=1)=false from by rw[e];rfl];exact Rn.p rfl (g (by rw[show Dj kk us i=61455 from if_neg λh=>h.2 e];exact b.only ⟨rfl,rfl,rfl,rfl,rfl,rfl,rfl,trivial⟩))
  ·rw[show((us:Int) !=1)=true from by rw[bne_iff_ne];omega];refine Rn.uc b λa b=> ?_;exact Rn.p rfl (g (by rw[show Dj kk us i=4080 from if_pos ⟨d,e⟩];exact b.only ⟨rfl,rfl,rfl,rfl,rfl,rfl,rfl,trivial⟩))
 ·rw[show((i:Int)==(kk:Int))=false from by rw[beq_eq_false_iff_ne];omega]at b
  iterate 2 refine Rn.us b λa b=> ?_
  refine Rn.vv b (λo c=>yZ c (b.G 34) rfl) λa b=> ?_;refine Rn.p rfl (Rn.cond _ (b.G 37) ?_);exact Rn.p rfl (g (by rw[show Dj kk us i=61455 from if_neg λh=>d h.1];exact b.only ⟨rfl,rfl,rfl,rfl,rfl,rfl,rfl,trivial⟩))
end
end L1
section
open Go.Conc Go.RowKit
def ri(least:Nat):Int:=1*2^least- 1
end
namespace L1
open Go.Conc Go.RowKit
theorem O3{m n:Int}{g f d c b:Nat}(a:o.op= .buildSlice 22 5 #[(0, .tmp g),(1, .tmp f),(2, .tmp d),(3, .tmp c),(4, .tmp b)])(p:ev (.tmp g)= .i m)(l:ev (.tmp f)= .i m)(k:ev (.tmp d)= .i n)(j:ev (.tmp c)= .i n)(i:ev (.tmp b)= .i n):(execOp ev o).run lT w= .ok (.value (.sk w.heap.size 5 5)) (w.alloc (.cells (dT [m,m,n,n,n]).toArray 3)):=by
 have e:execOp ev o=(do pure (.value (←Uf 22 5 #[(0, .i m),(1, .i m),(2, .i n),(3, .i n),(4, .i n)]))):=by simp[execOp,a,p,l,k,j,i]
 have h:(do pure (.value (←Uf 22 5 #[(0, .i m),(1, .i m),(2, .i n),(3, .i n),(4, .i n)])):Sem Next).run lT w= .ok (.value (.sk w.heap.size 5 5)) (w.alloc (.cells (dT [m,m,n,n,n]).toArray 3)):=k_
 rw[e,h]
section
variable{hs:ByteArray}
theorem Fy(d:hs.size=32)(g:Int)(least kk us:Nat)(x:least<=16):Calls lT 12 #[.i g, .i least, .i kk, .s hs, .i us] w λe w'=>∃v,e= .returned v/\∃q cap f,v= .sk q 85 cap/\(w.heap.size<=q/\85<=cap)/\w'.heap[q]?=some (.cells f 3)/\w'.rangeAt q 0 ((yd g (ri least) kk us hs 4).map (Value.int .i64))/\Bw w w':=by
 refine bI (t:=10) Lf.func12 rfl λO=> ?_;rw[aZ (N:=82) [.i g, .i least, .i kk, .s hs, .i us] Lf.func12 Pl rfl];have b:=aQ [.i g, .i least, .i kk, .s hs, .i us] 82 s_;have J:2^least<=2^16:=Nat.pow_le_pow_right o_ x;have I:(2:Int)^least=((2^least:Nat):Int):=by rw[UY];rfl
 have H:0<2^least:=Nat.pow_pos o_
 iterate 2 refine Rn.uc b λa b=> ?_
 refine Rn.vv b (λo c=>wZ (m:=1) (k:=least) c rfl (b.G 18) o_ o_) λa b=> ?_;refine Rn.vv b (λo c=>Bd (n:=1) c (b.G 19) rfl o_) λa b=> ?_;have b:aW [(0, .i g),(2, .i kk),(3, .s hs),(4, .i us),(20, .i (ri least))] 82 [] a:=b.only ⟨rfl,rfl,rfl,rfl,rfl,trivial⟩
 iterate 6 refine Rn.uc b λa b=> ?_
 refine Rn.al b (λo c=>O3 c (b.G 21) (b.G 22) (b.G 23) (b.G 24) (b.G 25)) λA a F E G b=> ?_;have c:A.ownsRow w.heap.size 3 1 (.sk w.heap.size 5 5) (yd g (ri least) kk us hs 0).length (dT (yd g (ri least) kk us hs 0)):=⟨rfl, .inr ⟨w.heap.size,5,_,rfl,TB _,E,TB _,by unfold maxLen;omega,rfl,rfl⟩⟩
 iterate 2 refine Rn.uc b λa b=> ?_
 refine Rn.runs 3 _ ?_;refine pR (i:=0) d o_ F c (b.only ⟨rfl,rfl,rfl,rfl,rfl,trivial⟩) λa s v p c b=>pR (i:=1) d o_ p c b λa s v p c b=>pR (i:=2) d o_ p c b λa s v p c b=>pR (i:=3) d o_ p c b λa s v p c b=> ?_;have b:aW [(12,v),(13, .i 4)] 82 [] a:=b.only ⟨rfl,rfl,trivial⟩;refine Rn.uc b λa b=> ?_;refine Rn.vv b (λo c=>(di (ql:=true) (m:=4) (n:=4) c (b.G 27) rfl).1) λa b=> ?_;refine Rn.p rfl (Rn.cond _ (b.G 28) ?_)
 iterate 2 refine Rn.uc b λa b=> ?_
 have l:=mi g (ri least) kk us hs 4;rw[show 3+1=4 from rfl,l]at c;rcases c.2 with⟨_,h⟩|⟨q,cap,f,rfl,D,z,C,M,L,B⟩
 ·omega
 refine Rn.fi b ⟨_,rfl,q,cap,f,rfl,⟨D,C⟩,z,λj u y=> ?_,p⟩;rw[TL,aG z];have r:(f.toList.take (85*1))[j]?=some u:=by rw[B];exact y
 have K:j<85:=by have:=(TM.1 y).1;rw[UO,l]at this;omega
 rw[XA,if_pos o_]at r;simpa using r
end
end L1
section
open Go.Conc Go.RowKit
theorem Nm:(U5 17).all (λn=>vG (ri n)==(n:Int)&&EZ (ri n).toNat (ri n).toNat (ri n).toNat==(ri n).toNat&&(ri n).toNat&&&((ri n).toNat+1)==0&&decide (0<=ri n)&&decide (ri n<65536))=true:=by decide+kernel
theorem Mu(h:n<=16):vG (ri n)=(n:Int)/\EZ (ri n).toNat (ri n).toNat (ri n).toNat=(ri n).toNat/\(ri n).toNat&&&((ri n).toNat+1)=0/\0<=ri n/\ri n<65536:=by have:=List.all_eq_true.1 Nm n (by simp;omega);simp only[Bool.and_eq_true,beq_iff_eq,decide_eq_true_eq]at this;obtain⟨⟨⟨⟨e,d⟩,c⟩,b⟩,a⟩:=this;exact⟨e,d,c,b,a⟩
end
namespace L1
open Go.Conc Go.RowKit
section
variable{id seed rt X1 X2 bd:ByteArray}{q v e:Nat}
theorem JO(b:id.size=16)(a:rt.size=32):(ut id rt v e bd).size=84+bd.size:=by have f:jx.size=4:=rfl;have d:z6.size=6:=rfl;have c:=pO id rt b a;simp only[ut,AS,aM];omega
theorem Kb(b:X1.size=32)(a:X2.size=32){salt:ByteArray}(hs:salt.size=32)(msg:ByteArray):(sd KS id seed q salt msg X1 X2).size=4364:=by rw[sd,AS,AS,AS,li _ _ _ _ _ _ hs,aM];omega
variable(hid:id.size=16)(hrt:rt.size=32)(h1:X1.size=32)(h2:X2.size=32)(hbd:bd.size<=500)
include hid hrt h1 h2 hbd
theorem xv:(Fe KS id seed rt X1 X2 q v e bd).size=8192:=by rw[Fe,AS,je,AS,JO hid hrt,Kb h1 h2 (cm ..)];omega
theorem zE:(Fe KS id seed rt X1 X2 q v e bd).extract 0 8192=Fe KS id seed rt X1 X2 q v e bd:=by
 have h:=ByteArray.extract_zero_size (b:=Fe KS id seed rt X1 X2 q v e bd)
 rwa [xv hid hrt h1 h2 hbd]at h
variable(hv:v<65536)(he:e=80\/(e=84/\84<84+bd.size))
include hv he
end
end L1
section
open Go.Conc Go.RowKit
theorem Nl(hs:ByteArray)(j:Nat):Mt hs j<65536:=by have b:=(hs.data.toList.getD (2*j) 0).toNat_lt;have a:=(hs.data.toList.getD (2*j+1) 0).toNat_lt;exact Nat.or_lt_two_pow (n:=16) o_ o_
theorem DD(st vv:Int)(c:0<=st/\st<65536)(b:0<=vv/\vv<65536)(kk us:Nat)(hs:ByteArray):∀i,∀x∈yd st vv kk us hs i,0<=x/\x<65536
 |0,x,a=>by simp only[yd,U4,TY,or_false]at a;rcases a with rfl|rfl|rfl|rfl|rfl<;>assumption
 |i+1,x,a=>by
  rcases Z8.1 a with a|a
  ·exact DD st vv c b kk us hs i x a
  ·rcases Z8.1 a with a|a
   ·have d:0<=Dj kk us i/\Dj kk us i<65536:=(by unfold Dj;split<;>decide);have e:0<=lp kk us i/\lp kk us i<65536:=(by unfold lp;split<;>decide);simp only[U4,TY,or_false]at a;rcases a with rfl|rfl|rfl|rfl<;>assumption
   ·obtain⟨j,_,rfl⟩:=Wh.1 a;have:=Nl hs j;split<;>omega
theorem JH{W:List Int}(a:W.length=85)(h:∀x∈W,0<=x/\x<65536):gW W:=⟨a,λi b=>by rw[TV,TX o_];exact h _ (List.getElem_mem _)⟩
theorem QG(st vv:Int)(b:0<=st/\st<65536)(a:0<=vv/\vv<65536)(kk us:Nat)(hs:ByteArray):gW (yd st vv kk us hs 4):=
 JH (mi st vv kk us hs 4) (DD st vv b a kk us hs 4)
end
namespace L1
open Go.Conc Go.RowKit
theorem xO(b:ByteArray):(E1 b).size<=500:=by
 unfold E1;split
 ·rw[TT];omega
 ·omega
section
variable(KS:List Int)(seed:ByteArray)(used:Nat)
def Mw:ByteArray:=SO KS (j0 KS seed) seed used
def Sr:ByteArray:=fT KS (yc (j0 KS seed) (Mw KS seed used))
def sA(a:ByteArray):ByteArray:=EB KS (j0 KS seed) seed (Mw KS seed used) (Oh KS (j0 KS seed) seed used) (ng KS (j0 KS seed) seed used 1) a used
def sB(b:ByteArray):ByteArray:=Ga KS (j0 KS seed) seed (Mw KS seed used) (Oh KS (j0 KS seed) seed used) (ng KS (j0 KS seed) seed used 0) b used
variable{KS seed used}{le:Int}{us:List Bool}{hs:List ByteArray}{a b:ByteArray}
theorem Ih:(Sr KS seed used).size=32:=cm ..
theorem QY(b:used&&&1=1):sA KS seed used a=Fe KS (j0 KS seed) seed (Mw KS seed used) (ng KS (j0 KS seed) seed used 1) (Oh KS (j0 KS seed) seed used) 0 3 (LC 0 (E1 a)) (E1 a):=by rw[sA,EB,if_pos b,Rv];exact zE (iR ..) (cm ..) (g6 ..) (cm ..) (xO a)
theorem QW(a:used&&&2=2):sB KS seed used b=Fe KS (j0 KS seed) seed (Mw KS seed used) (ng KS (j0 KS seed) seed used 0) (Oh KS (j0 KS seed) seed used) 1 4 (LC 1 (E1 b)) (E1 b):=by rw[sB,Ga,if_pos a,Ru];exact zE (iR ..) (cm ..) (g6 ..) (cm ..) (xO b)
theorem QX(b:used&&&1≠1):sA KS seed used a=qc 8192:=by rw[sA,EB,if_neg b]
theorem QV(a:used&&&2≠2):sB KS seed used b=qc 8192:=by rw[sB,Ga,if_neg a]
theorem Ke:(sA KS seed used a).size=8192:=by
 by_cases b:used&&&1=1
 ·rw[QY b];exact xv (iR ..) (cm ..) (g6 ..) (cm ..) (xO a)
 ·rw[QX b,je]
theorem Kd:(sB KS seed used b).size=8192:=by
 by_cases a:used&&&2=2
 ·rw[QW a];exact xv (iR ..) (cm ..) (g6 ..) (cm ..) (xO b)
 ·rw[QV a,je]
theorem Ls:(sA KS seed used a++sB KS seed used b).size=16384:=by rw[AS,Ke,Kd]
end
end L1
section
open Go.Conc Go.RowKit
theorem ID(a:Nat):∀(n i:Nat) (b:Array Value) (w:World) (es:Array Event),(∀j,j<n->(w.cell? ⟨a,i+j,none⟩).isSome)->∀ev∈(loadCellsFrom ⟨a,0,none⟩ i n b).events P w es,ev∈es\/∃k,ev=⟨.cell ⟨a,k,none⟩,false,false⟩
 |0,_,_,_,_,_=>λev h=> .inl (by simpa[loadCellsFrom]using h)
 |n+1,i,b,w,es,hc=>λev h=>by
  simp only[loadCellsFrom,VY]at h;obtain⟨u,c⟩:=W2.1 (hc 0 o_);have e:(⟨a,0,none⟩:Addr).add i=⟨a,i,none⟩:=by rw[Uu,TL]
  rw[e]at h;simp only[XN]at c;have d:(load ⟨a,i,none⟩).run P w= .ok u w:=by simp[c]
  rw[d]at h;rcases ID a n (i+1) (b.push u) w _ (λj f=>by have:=hc (j+1) o_;rwa [show i+(j+1)=i+1+j by omega]at this) ev h with h|h
  ·rw[events_load,c]at h;rcases Xi.1 h with h|rfl
   ·exact .inl h
   ·exact .inr ⟨_,rfl⟩
  ·exact .inr h
theorem xn{a:Nat}{ty:TypeId}{cells:Array Value}{i:TypeId}(g:(isAgg ty).run P w= .ok true w)(p:(isAgg ty).events P w #[]=#[])(f:(sizeOf ty).run P w= .ok n w)(h:w.heap[a]?=some (.cells cells i))(m:cells.size=n):
 (loadVar ty ⟨a,0,none⟩).run P w= .ok (.agg cells) w/\∀e∈(loadVar ty ⟨a,0,none⟩).events P w #[],∃k,e=⟨.cell ⟨a,k,none⟩,false,false⟩:=by
 have o:∀j v,cells.toList[j]?=some v->w.cell? ((⟨a,0,none⟩:Addr).add j)=some v:=λj v l=>by rw[Uu,TL,aG h];simpa using l
 have c:(loadCells ⟨a,0,none⟩ cells.toList.length).run P w= .ok cells.toList.toArray w:=run_loadCells_list (P:=P) w ⟨a,0,none⟩ cells.toList o;have b:cells.toList.length=n:=by simpa using m
 rw[b]at c;constructor
 ·simp[loadVar,g,f,c]
 ·intro e d;simp[loadVar,g,p,f]at d;rcases ID a n 0 #[] w #[] (λj q=>by rw[TL,aG h];simp;omega) e d with h|h
  ·simp at h
  ·exact h
section
variable{ty:TypeId}{t r:Nat}
theorem yJ(c:fn.results=#[.tmp r])(v:Value)(b:Nat)(tmps:Array Value)(w:World)(h:iV none (some (true,r)) n v b tmps w):(results fn tmps).run P w= .ok v w/\∀e∈(results fn tmps).events P w #[],(none:Option Tmp).isSome=true/\∃k,e=⟨.cell ⟨b,k,none⟩,false,false⟩:=by obtain⟨f,d⟩:=lY (P:=P) c (show tmps[r]?=some v from h) w;exact⟨f,λe a=>by rw[d]at a;simp at a⟩
theorem kY(f:∀w:World,(isAgg ty).run P w= .ok true w/\(isAgg ty).events P w #[]=#[])(o:∀w:World,(sizeOf ty).run P w= .ok n w)(c:fn.results=#[.cell t ty])(v:Value)(g:Nat)(tmps:Array Value)(w:World)(h:iV (some t) none n v g tmps w):(results fn tmps).run P w= .ok v w/\∀e∈(results fn tmps).events P w #[],(some t).isSome=true/\∃k,e=⟨.cell ⟨g,k,none⟩,false,false⟩:=by
 obtain⟨a,p,b,j,i,rfl⟩:=h;obtain⟨m,l⟩:=xn (P:=P) (f w).1 (f w).2 (o w) j i;constructor
 ·simp[results,c,b,asAddr,m]
 ·intro e d;simp[results,c,b,asAddr]at d;exact⟨rfl,l e d⟩
theorem GT(j:∀w:World,(isAgg ty).run P w= .ok true w/\(isAgg ty).events P w #[]=#[])(p:∀w:World,(sizeOf ty).run P w= .ok n w)(q:Bool)(d:fn.results=if q then #[.tmp r, .cell t ty]else #[.cell t ty, .tmp r])(v:Value)(l:Nat)(tmps:Array Value)(w:World)(h:iV (some t) (some (q,r)) n v l tmps w):(results fn tmps).run P w= .ok v w/\∀e∈(results fn tmps).events P w #[],(some t).isSome=true/\∃k,e=⟨.cell ⟨l,k,none⟩,false,false⟩:=by
 obtain⟨f,s,x,c,o,m,b,rfl⟩:=h;obtain⟨i,g⟩:=xn (P:=P) (j w).1 (j w).2 (p w) o m;cases q with
 |true=>
  constructor
  ·simp[results,d,c,b,asAddr,i]
  ·intro e a;simp[results,d,c,b,asAddr]at a;exact⟨rfl,g e a⟩
 |false=>
  constructor
  ·simp[results,d,c,b,asAddr,i]
  ·intro e a;simp[results,d,c,b,asAddr]at a;exact⟨rfl,g e a⟩
end
theorem Kn{r:Nat}{R:(Nat->Prop)->Value->World->Prop}(s:P.funcs[f]?=some fn)(p:fn.results=#[.tmp r])(h:Calls P f args w λe w'=>∃v,e= .returned v/\v≠undef/\R (λ_=>True) v w'):
 Rn P (λg w'=>nF f none (some (true,r)) n R g w'/\∃fr',g=cJ fr' []) (TJ P f args .normal) [] w:=by
 obtain⟨e,w',j,⟨v,rfl,o,q⟩,d,a,c⟩:=h [];obtain⟨m,l,k,t,i,b⟩:=c;rw[a,s]at i;cases i;have u:j.tmps[r]?.getD undef=v:=by rw[results_tmp p]at b;simp at b;exact b
 exact⟨_,w',WO d,⟨a,m,l,rfl,rfl,k,rfl,v,0,qN u o,q⟩,j,rfl⟩
theorem ls{v0:Value}(hv:bQ v0=true):Mp (λ_ v _=>v=v0):=⟨λ_ _ _ h=>h,λD a w b v _ _ h=>by rw[h,dS a v0 hv]⟩
theorem ON:Mp (λ_ v _=>∃p:Nat,v= .i p/\p<n):=⟨λ_ _ _ h=>h,λD b w c v _ _ ⟨p,h,a⟩=>⟨p,by rw[h,aD],a⟩⟩
theorem qm{d c:Nat}(h:cI 2 0 D ρ w w')(b:∀a,aS 2 D ρ a->aD a (.sk d l c)=aD ρ (.sk d l c)):D d:=h.dom λa e=>by have:=b a e;simp only[aD,Option.map_some,aX,aa4.injEq,Option.some.injEq,Addr.mk.injEq]at this;exact this.1.1
theorem OL{V:List Int}:Mp (λE v w=>∃a cap b,v= .sk a 85 cap/\(85<=cap/\w.heap[a]?=some (.cells b 3))/\w.rangeAt a 0 (V.map (Value.int .i64))/\E a):=by refine⟨λ_ _ _ ⟨a,cap,b,f,e,i,_⟩=>⟨a,cap,b,f,e,i,trivial⟩,λD d w n v h c ⟨a,cap,b,f,⟨q,e⟩,i,_⟩=> ?_⟩;rw[f]at c;have m:=qm h c;obtain⟨o,l,_,p⟩:=h.obj a m;rw[e]at l;cases l;have k:n.heap[d a]?=some (.cells (b.map (aD d)) 3):=p d h.self;refine⟨d a,cap,_,by rw[f];simp[aD,aX],⟨q,k⟩,λj u g=> ?_,a,m,rfl⟩;have:=i j u g;rw[TL,aG e]at this;rw[TL,aG k,TQ,this];rw[Up,U1]at g;obtain⟨x,_,rfl⟩:=g;simp[aD]
theorem OM{id seed:ByteArray}{n:List ByteArray}:Mp (λE v w=>∃a,v= .agg (gz id seed a)/\w.heap[a]?=some (.cells (n.map Value.string).toArray 9)/\E a):=by
 refine⟨λ_ _ _ ⟨a,d,h,_⟩=>⟨a,d,h,trivial⟩,λD b w p v g f ⟨a,d,h,_⟩=> ?_⟩;have m:D a:=qm (l:=8) (c:=8) g λe r=>by have:=f e r;rw[d]at this;simp only[aD,gz,Value.agg.injEq]at this;have:=congrArg (·[2]?) this;simpa using this
 obtain⟨o,j,_,q⟩:=g.obj a m;rw[h]at j;cases j;have i:p.heap[b a]?=some (.cells ((n.map Value.string).toArray.map (aD b)) 9):=q b g.self;rw[iP λv k=>by simp only[List.mem_toArray,Wh]at k;obtain⟨s,_,rfl⟩:=k;simp[aD]]at i
 exact⟨b a,by rw[d];simp[aD,aX,gz],i,a,m,rfl⟩
theorem sK(h:fn.body.elim false (oa f)=true):∃c,fn.body=some c/\oa f c=true:=by
 cases a:fn.body with
 |none=>rw[a]at h;cases h
 |some c=>rw[a]at h;exact⟨c,rfl,h⟩
section
variable{W:World}{S:Nat->Prop}{r t:Nat}{ty:TypeId}{R:(Nat->Prop)->Value->World->Prop}{c':Frame}{cs':List Frame}
theorem Hd.keep(f:Hd W S D w)(d:∀b,D b->wL.heap[b]?=w.heap[b]?)(e:Bw wL w'):∀b,D b->w'.heap[b]?=wL.heap[b]?:=λb a=>by obtain⟨_,_,o,c,_⟩:=f.own b a;exact e.block b (aK ((d b a).trans c))
def Nx(W w:World)(S D:Nat->Prop)(R:(Nat->Prop)->Value->World->Prop)(K:(Nat->Prop)->World->Value->Prop):Prop:=
 ∀(S' E:Nat->Prop) (w':World) (v:Value),R E v w'->Hd W S' E w'->(∀b,D b->E b)->w.heap.size<=w'.heap.size->(∀r,r<w.heap.size->¬S r->w'.heap[r]?=w.heap[r]?/\¬S' r)->(∀x o,Ow W S D w x o->Ow W S' E w' x o)->K S' w' v
structure Tb (W:World):Prop where
 rng:W.rangeAt 0 0 (aH iJ)
 obj:∃cl e z,(∀v∈cl,bQ v=true)/\W.heap[0]?=some (.cells cl e z)
theorem Hd.slot(q:Hd W S D w)(p:Tb W)(m:∀I,c'.mode≠ .panicking I)(B:Mp R)(A:∀d,aS 2 D id d->args=args.map (aD d))(z:Tryz.prog.funcs[f]?=some fn)(k:lT.funcs[f]?=some fn)
 (C:∀wL:World,wL.rangeAt 0 0 (aH iJ)->2<=wL.heap.size->(∀b,D b->wL.heap[b]?=w.heap[b]?)->Calls lT f args wL λe w'=>∃v,e= .returned v/\v≠undef/\R (λ_=>True) v w'/\Bw wL w')
 (c:Nx W w S D R λK w' v=>aT tP Post K (cJ (c'.finish v) cs') w') (a:fn.body.elim false (oa f)=true:=by kernel_rfl) (i:fn.results=#[.tmp r]:=by rfl) (j:dm f=0:=by rfl) (l:f≠105:=by decide) (y:oO f=false:=by kernel_rfl):aT tP Post S (bC tP f args (c'::cs')) w:=
 let ⟨_,hb,a⟩:=sK a
 q.call (t:=none) (u:=some (true,r)) (n:=0) z hb a (yJ i) (λv J g w h=>(yJ i v J g w h).1) B m j l y A p.rng dn p.obj (λwL x s o=>Kn k i ((C wL x s o).mono λ_ _ ⟨v,H,G,F,E⟩=>⟨v,H,G,F,q.keep o E⟩)) c
theorem Hd.cell1(y:Hd W S D w)(x:Tb W)(p:∀T,c'.mode≠ .panicking T)(N:Mp R)(M:∀i,aS 2 D id i->args=args.map (aD i))(L:Tryz.prog.funcs[f]?=some fn)
 (Q:∀w:World,(isAgg ty).run tP w= .ok true w/\(isAgg ty).events tP w #[]=#[]) (P:∀w:World,(sizeOf ty).run tP w= .ok n w) (J:∀w:World,(isAgg ty).run lT w= .ok true w/\(isAgg ty).events lT w #[]=#[]) (I:∀w:World,(sizeOf ty).run lT w= .ok n w)
 (O:∀wL:World,wL.rangeAt 0 0 (aH iJ)->2<=wL.heap.size->(∀b,D b->wL.heap[b]?=w.heap[b]?)->Rn lT (λg w'=>∃(a:Act) (k:List Item) (e:Nat) (cells:Array Value) (l:TypeId),g=cJ {(base f).atR a k with mode:= .returning} []/\a.defers=[]/\a.tmps[t]?=some (.pk e 0)/\w'.heap[e]?=some (.cells cells l)/\cells.size=n/\R (λ_=>True) (.agg cells) w'/\Bw wL w') (Frame.enter lT f args .normal) [] wL)
 (d:Nx W w S D R λU w' v=>aT tP Post U (cJ (c'.finish v) cs') w') (c:fn.body.elim false (oa f)=true:=by kernel_rfl) (r:fn.results=#[.cell t ty]:=by rfl) (m:dm f=0:=by rfl) (o:f≠105:=by decide) (K:oO f=false:=by kernel_rfl):aT tP Post S (bC tP f args (c'::cs')) w:=
 let ⟨_,hb,c⟩:=sK c
 y.call (t:=some t) (u:=none) (n:=n) L hb c (kY Q P r) (λv e j w h=>(kY J I r v e j w h).1) N p m o K M x.rng dn x.obj (λwL H G q=>by obtain⟨V,w',s,a,k,e,cells,l,rfl,F,E,C,B,A,z⟩:=O wL H G q;exact⟨_,w',s,⟨rfl,rfl,F,rfl,rfl,rfl,rfl, .agg cells,e,⟨cells,l,E,C,B,rfl⟩,A,y.keep q z⟩,_,rfl⟩) d
end
end
section
open Go.RowKit
theorem Lf.func44:(aI q tP).funcs[44]?=some Tryz.f44:=aN Tryz.func44 d_ rfl rfl k_
theorem Lf.func31:(aI q tP).funcs[31]?=some Tryz.f31:=aN Tryz.func31 d_ rfl rfl k_
theorem Lf.func32:(aI q tP).funcs[32]?=some Tryz.f32:=aN Tryz.func32 d_ rfl rfl k_
theorem Lf.func17:(aI q tP).funcs[17]?=some Tryz.f17:=aN Tryz.func17 d_ rfl rfl k_
theorem Lf.func18:(aI q tP).funcs[18]?=some Tryz.f18:=aN Tryz.func18 d_ rfl rfl k_
end
namespace L1
open Go.Conc Go.RowKit
section
variable{y:Operand}
theorem Kh{W:List Int}{d:Array Value}(h:w.heap[b]?=some (.cells d t))(g:w.rangeAt b 0 (W.map (Value.int .i64)))(n:Int):(et w b (d.setIfInBounds i (.i n)) t).rangeAt b 0 ((W.set i n).map (Value.int .i64)):=λj v a=>by
 rw[TL,aG (cP h)];rw[Up,a87]at a;by_cases c:i=j
 ·subst c;rw[if_pos rfl]at a;by_cases f:i<W.length
  ·rw[if_pos f]at a;have e:=g i _ (by rw[Up,TX f];rfl);rw[TL,aG h]at e;have k:=(gA e).1;rw[Array.getElem?_setIfInBounds_self_of_lt k,←a];rfl
  ·rw[if_neg f]at a;cases a
 ·rw[if_neg c]at a;have e:=g j v (by rw[Up];exact a);rw[TL,aG h]at e;rwa [sN c]
end
end L1
section
open Go.Conc Go.RowKit
theorem IB(b:Nat)(t:TypeId):∀(vs:List Value) (i:Nat) (a:Array Value) (w:World) (es:Array Event),w.heap[b]?=some (.cells a t)->i+vs.length<=a.size->(∀v∈vs,v.oneCell'=true)->
 ∀ev∈(storeCells ⟨b,0,none⟩ vs i).events P w es,ev∈es\/∃k,ev=⟨.cell ⟨b,k,none⟩,true,false⟩
 |[],_,_,_,_,_,_,_=>λev h=> .inl (by simpa[storeCells]using h)
 |v::rest,i,a,w,es,hg,hl,h1=>λev h=>by
  have l:i<a.size:=by simp at hl;omega
  have e:(⟨b,0,none⟩:Addr).add i=⟨b,i,none⟩:=by rw[Uu,TL]
  have c:w.cell? ⟨b,i,none⟩=some a[i]:=by rw[aG hg];simp[l]
  have d:w.frozen? ⟨b,i,none⟩=false:=by simp[Ux,hg]
  have f:(store ((⟨b,0,none⟩:Addr).add i) v).run P w= .ok () (et w b (a.setIfInBounds i v) t):=by rw[e,run_store P w _ v _ (h1 v s_),c];simp[d,iL v hg]
  have g:(store ((⟨b,0,none⟩:Addr).add i) v).events P w es=es.push ⟨.cell ⟨b,i,none⟩,true,false⟩:=by rw[e,events_store P w es _ v _ (h1 v s_),c];simp only[d,TK,if_false];rfl
  simp only[storeCells,VY,f,Wl,g]at h;rcases IB b t rest (i+1) (a.setIfInBounds i v) _ _ (cP hg) (by simp at hl⊢;omega) (λx j=>h1 x (by simp[j])) ev h with h|h
  ·rcases Xi.1 h with h|rfl
   ·exact .inl h
   ·exact .inr ⟨_,rfl⟩
  ·exact .inr h
section
variable{y:Operand}{ty:TypeId}{bk:Nat}{cells old:Array Value}
theorem AZ(n:∀w:World,(sizeOf ty).run P w= .ok cells.size w/\(sizeOf ty).events P w #[]=#[])(a:o.op= .store ty x y)(g:ev x= .pk bk 0)(f:ev y= .agg cells)(c:w.heap[bk]?=some (.cells old t))(b:(P.info? ty).map (·.size)=some cells.size)(j:old.size=cells.size)(d:cells.all (·.oneCell')=true):
 (execOp ev o).run P w= .ok .skip (et w bk cells t)/\∀e∈(execOp ev o).events P w #[],∃k,e=⟨.cell ⟨bk,k,none⟩,true,false⟩:=by
 constructor
 ·rw[←ie c];exact cZ a g f c b j d
 ·intro e l;simp[execOp,a,g,f,Instr.storeAt,storeVar,Value.cells,(n w).1,go_sem]at l;rcases IB (P:=P) bk t cells.toList 0 old w #[] c (by simp[j]) (λv m=>by rw[Array.all_eq_true]at d;obtain⟨i,b,rfl⟩:=List.mem_iff_getElem.1 m;exact d i (by simpa using b)) e l with h|h
  ·simp at h
  ·exact h
theorem B0(hv:v.cells=#[v])(a:v.oneCell'=true)(i:(sizeOf ty).run tP w= .ok 1 w)(b:o.op= .store ty x y)(h:ev x= .pk bk k)(g:ev y=v)(c:w.heap[bk]?=some (.cells old t))(j:k<old.size):
 (execOp ev o).run tP w= .ok .skip (et w bk (old.setIfInBounds k v) t)/\∀e∈(execOp ev o).events tP w #[],∃k,e=⟨.cell ⟨bk,k,none⟩,true,false⟩:=by obtain⟨f,l⟩:=eI (v0:=old[k]) hv a i b h g (by rw[aG c];simp[j]) (by simp[Ux,c]);rw[iL v c]at f;exact⟨f,λe d=>by rw[l]at d;exact⟨k,by simpa using d⟩⟩
end
section
variable{W:World}{S:Nat->Prop}{x y:Nat}{o p:Obj}
theorem Hd.made(a:Hd W S D w)(k:∀r,S r->r<w.heap.size)(b:Bw w w')(j:w'.heap[w.heap.size]?=some o):Hd W S D w'/\Ow W S D w' w.heap.size o/\∀y p,Ow W S D w y p->Ow W S D w' y p:=by
 have e:=a.old.size;refine⟨⟨a.two,⟨b.os.trans a.old.os,b.tape.trans a.old.tape,b.output.trans a.old.output,TW e b.size,λr d=>(b.block r o_).trans (a.old.block r d)⟩,a.shun,λr d=> ?_⟩,⟨e,λh=>by have:=k _ h;omega,λh=> ?_,j⟩,λy p h=>⟨h.new,h.ours,h.out,(b.block y (aK h.lies)).trans h.lies⟩⟩
 ·obtain⟨i,g,o,c,f⟩:=a.own r d;exact⟨i,g,o,(b.block r (aK c)).trans c,f⟩
 ·obtain⟨_,_,o,c,_⟩:=a.own _ h;have:=aK c;omega
theorem Hd.set(b:Hd W S D w)(a:Ow W S D w x o)(cs:Array Value)(t:TypeId):Hd W S D (et w x cs t)/\Ow W S D (et w x cs t) x (.cells cs t)/\∀y p,y≠x->Ow W S D w y p->Ow W S D (et w x cs t) y p:=by have d:=a.new;refine⟨⟨b.two,b.old.trans (dA d),b.shun,λr c=> ?_⟩,⟨d,a.ours,a.out,cP a.lies⟩,λy p j h=>⟨h.new,h.ours,h.out,(bX j).trans h.lies⟩⟩;obtain⟨i,g,o,f,e⟩:=b.own r c;exact⟨i,g,o,(bX (by rintro rfl;exact a.out c)).trans f,e⟩
theorem Hd.poke(b:Hd W S D w)(j:D x){a:Array Value}(k:w.heap[x]?=some (.cells a t))(i:Nat)(n:Int):Hd W S D (et w x (a.setIfInBounds i (.i n)) t)/\∀y p,Ow W S D w y p->Ow W S D (et w x (a.setIfInBounds i (.i n)) t) y p:=by
 obtain⟨c,_,_⟩:=b.own x j;refine⟨⟨b.two,b.old.trans (dA c),b.shun,λr m=> ?_⟩,λy p h=>⟨h.new,h.ours,h.out,(bX (by rintro rfl;exact h.out j)).trans h.lies⟩⟩;obtain⟨c,g,o,f,d⟩:=b.own r m;by_cases e:r=x
 ·subst e;rw[k]at f;cases f;refine⟨c,g,_,cP k,d.1,λl q=> ?_⟩;have:=d.2 l q;simp only[d7,Xm.injEq,and_true]at this⊢;rw[Array.map_setIfInBounds,this];simp[aD]
 ·exact⟨c,g,o,(bX e).trans f,d⟩
theorem Hd.at(a:Hd W S D w)(c:Nat):Hd W S D (w.at c):=⟨a.two,a.old.trans ⟨rfl,rfl,rfl,TB _,λ_ _=>rfl⟩,a.shun,a.own⟩
end
section
variable{S:Nat->Prop}{b:Frame}{k:List Item}
theorem aT.sp{j:List Item}{p:Op}{f:Nat}{d:Array Value}{n:Obj}(r:aW F N ds a)(q:w.heap[f]?=some n)(i:¬S f)(l:∀(o:Oper) (c:Nat),o.op=p->(execOp a.eval o).run tP (w.at c)= .ok .skip (et (w.at c) f d t)/\∀e∈(execOp a.eval o).events tP (w.at c) #[],∃k,e=⟨.cell ⟨f,k,none⟩,true,false⟩)
 (next:∀a',aW F N ds a'->aT tP Post S (cJ (b.atR a' (.inRegion ops rest::j)) cs) (et w f d t)) (s:gk 6 (b.atR a k)= .inRegion ops (m::rest)::j:=by rfl)
 (h:(ops[m]?).map (λo=>(o.dst,o.op,o.guard))=some (none,p,none):=by rfl) (g:nd p=true:=by rfl):aT tP Post S (cJ (b.atR a k) cs) w:=
 aT.ss (d:=λc=>(et w f d t).at c) r (aK q) i (λo c e=>⟨(l o c e).1,fY,(l o c e).2⟩) (λc a' h=>aT.at (next a' h) c) s h g
theorem yq{p:Prop}(h:p:=by
 first
 |exact uW ho gx
 |exact Ms ho gx
 |exact QD ho gx rfl
 |exact qe ho gx
 |exact di ho gx gx
 |exact Tz ho gx gx
 |exact Qz ho gx gx
 |exact Nf ho gx gx
 |exact Tv ho gx gx
 |exact QB _ d_ ho gx
 |exact Tw ho gx gx
 |exact Nb ho gx):p:=h
theorem aT.uu{g:List Item}{d:Tmp}{p:Op}{i:Option (Nat×Bool)}(r:aW F N ds a)(next:∀a',aW ((d,v)::F) N ds a'->aT tP Post S (cJ (b.atR a' (.inRegion ops rest::g)) cs) w)(s:gk 6 (b.atR a k)= .inRegion ops (m::rest)::g:=by rfl)
 (h:(ops[m]?).map (λo=>(o.dst,o.op,o.guard))=some (some d,p,i):=by rfl) (l:gF ops F i=true:=by rfl) (j:∀(o:Oper) (c:Nat),o.op=p->Yl tP a.eval o (w.at c) v #[]:=by intro o c ho;exact yq) (q:d<N:=by decide) (f:nd p=true:=by rfl):aT tP Post S (cJ (b.atR a k) cs) w:=aT.vv r j (λe n=>by simp at n) next s h l q f
end
end
section
open Go.Conc Go.RowKit L1
theorem fZ(h:∀vs,v≠ .tuple vs):v≠undef:=h _
section
variable{W:World}{S:Nat->Prop}{c':Frame}{cs':List Frame}
theorem Hd.known(g:Hd W S D w)(f:Tb W)(b:∀i,c'.mode≠ .panicking i)(a:Nx W w S D (λ_ v _=>v= .bool true) λj w' v=>aT tP Post j (cJ (c'.finish v) cs') w'):aT tP Post S (bC tP 8 #[] (c'::cs')) w:=
 g.slot (r:=0) f b (ls rfl) (λ_ _=>s_) Tryz.func8 Lf.func8 (λc d k _=>(Fa c d o_).mono λ_ _ h=>⟨_,h.1,fZ (λ_ e=>by cases e),rfl,h.2⟩) a
theorem Hd.sha(s:ByteArray)(hs:s.size<=576460752303423488)(g:Hd W S D w)(f:Tb W)(b:∀i,c'.mode≠ .panicking i)(a:Nx W w S D (λ_ v _=>v= .string ⟨(gV iJ s.data.toList).toArray⟩) λj w' v=>aT tP Post j (cJ (c'.finish v) cs') w'):aT tP Post S (bC tP 13 #[.s s] (c'::cs')) w:=
 g.slot (r:=2) f b (ls rfl) (λ_ _=>by simp[aD]) Tryz.func13 Lf.func13 (λc d k _=>(gh iJ s c d dn hs).mono λ_ _ h=>⟨_,h.1,fZ (λ_ e=>by cases e),rfl,h.2⟩) a
theorem Hd.pick(x:Int)(n:Nat)(l:0<n)(d: -9223372036854775808<=x/\x<9223372036854775808)(i:Hd W S D w)(g:Tb W)(b:∀j,c'.mode≠ .panicking j)(a:Nx W w S D (λ_ v _=>∃p:Nat,v= .i p/\p<n) λk w' v=>aT tP Post k (cJ (c'.finish v) cs') w'):aT tP Post S (bC tP 9 #[.i x, .i n] (c'::cs')) w:=
 i.slot (r:=4) g b ON (λ_ _=>by simp[aD]) Tryz.func9 Lf.func9 (λc _ _ _=>(Ha x n c o_ d.1 o_).mono λe w' h=>by obtain⟨⟨v,rfl,f⟩,rfl⟩:=h;exact⟨_,rfl,fZ (λ_ e=>by cases e),⟨v.toNat,by rw[Int.toNat_of_nonneg f.1],o_⟩,bR⟩) a
theorem Hd.fuses{hs:ByteArray}(f:hs.size=32)(d:Int)(least kk us:Nat)(g:least<=16)(l:Hd W S D w)(k:Tb W)(i:∀q,c'.mode≠ .panicking q)(a:Nx W w S D (λE v w=>∃c cap b,v= .sk c 85 cap/\(85<=cap/\w.heap[c]?=some (.cells b 3))/\w.rangeAt c 0 ((yd d (ri least) kk us hs 4).map (Value.int .i64))/\E c) λs w' v=>aT tP Post s (cJ (c'.finish v) cs') w'):aT tP Post S (bC tP 12 #[.i d, .i least, .i kk, .s hs, .i us] (c'::cs')) w:=
 l.slot (r:=10) k i OL (λ_ _=>by simp[aD]) Tryz.func12 Lf.func12 (λt _ _ _=>(Fy f d least kk us g).mono λe w' ⟨v,h,c,cap,b,j,p,o,n,m⟩=>⟨v,h,by rw[j];exact fZ (λ_ e=>by cases e),⟨c,cap,b,j,⟨p.2,o⟩,n,trivial⟩,m⟩) a
theorem Hd.grown(seed:ByteArray)(c:seed.size<=140737488355320)(used:Nat)(b:used<16)(l:Hd W S D w)(j:Tb W)(g:∀B,c'.mode≠ .panicking B)(d:Nx W w S D (λE v w=>∃f,v= .agg (gz (j0 iJ seed) seed f)/\w.heap[f]?=some (.cells ((Sp iJ (j0 iJ seed) seed used).map Value.string).toArray 9)/\E f) λF w' v=>aT tP Post F (cJ (c'.finish v) cs') w'):aT tP Post S (bC tP 10 #[.s seed, .i used] (c'::cs')) w:=
 l.cell1 (t:=4) (n:=3) (ty:=27) j g OM (λ_ _=>by simp[aD]) Tryz.func10 (λw=>⟨k_,k_⟩) (λw=>k_) (λw=>⟨k_,k_⟩) (λw=>k_) (λG i H _=>by obtain⟨A,w',s,a,k,C,e,h,z,y,x,u,r,v,q,f,p,o,_,m⟩:=Im (seed:=seed) dn c used b i o_ [];cases q;exact⟨A,w',s,a,k,C,e,h,z,y,x,u,r,⟨f,p,o,trivial⟩,m⟩) d
theorem Hd.twoI{id seed rt t f i g x u:ByteArray}{b:Nat}(k:id.size=16)(c:seed.size<=140737488355320)(p:rt.size=32)(o:f.size=32)(s:i.size=32)(q:g.size=32)(a:Nat)(C:a<4)(A B:ByteArray)(j:w.heap[b]?=some (.cells ([⟨#[]⟩,rt,t,f,i,g,x,u].map Value.string).toArray 9))(m:D b)(F:Hd W S D w)(E:Tb W)(l:∀G,c'.mode≠ .panicking G)(d:Nx W w S D (λ_ v _=>v= .s (EB iJ id seed rt f g A a++Ga iJ id seed rt f i B a)) λH w' v=>aT tP Post H (cJ (c'.finish v) cs') w'):aT tP Post S (bC tP 11 #[.agg (gz id seed b), .i a, .s A, .s B] (c'::cs')) w:=
 F.slot (r:=8) E l (ls rfl) (λn h=>by have:n b=b:=h.2 b m;simp[aD,aX,gz,this]) Tryz.func11 Lf.func11 (λI z J y=>(JP dn k c p o s q a C A B ((y b m).trans j) z o_).mono λ_ _ h=>⟨_,h.1,fZ (λ_ e=>by cases e),rfl,h.2⟩) d
theorem Hd.kez{id seed rt:ByteArray}{i:List ByteArray}{a:Nat}(d:id.size=16)(m:w.heap[a]?=some (.cells (i.map Value.string).toArray 9))(o:i[1]?=some rt)(c:rt.size=32)(g:D a)(n:Hd W S D w)(l:Tb W)(f:∀p,c'.mode≠ .panicking p)(b:Nx W w S D (λ_ v _=>v= .s (yc id rt)) λq w' v=>aT tP Post q (cJ (c'.finish v) cs') w'):aT tP Post S (bC tP 14 #[.agg (gz id seed a)] (c'::cs')) w:=
 n.slot (r:=2) l f (ls rfl) (λj h=>by have:j a=a:=h.2 a g;simp[aD,aX,gz,this]) Tryz.func14 Lf.func14 (λs _ _ k=>(xo d ((k a g).trans m) o c).mono λ_ _ h=>⟨_,h.1,fZ (λ_ e=>by cases e),rfl,h.2⟩) b
end
theorem RN(a:o.op= .alloc 27):(execOp ev o).run tP w= .ok (.value (.pk w.heap.size 0)) (w.alloc (.cells #[.string ⟨#[]⟩, .string ⟨#[]⟩, .slice none 0 0] 27))/\(execOp ev o).events tP w #[]=#[]:=by
 have e:execOp ev o=(do pure (.value (←Uo 27 true (.tuple #[])))):=by simp only[execOp,a]
 rw[e];constructor<;>kernel_rfl
theorem mr(a:o.op= .alloc 36):(execOp ev o).run tP w= .ok (.value (.pk w.heap.size 0)) (w.alloc (.cells (L1.eE 0 false 0 0 0) 36))/\(execOp ev o).events tP w #[]=#[]:=by
 have e:execOp ev o=(do pure (.value (←Uo 36 true (.tuple #[])))):=by simp only[execOp,a]
 rw[e];constructor<;>kernel_rfl
theorem ND{y:Operand}{d:Nat}{id seed:ByteArray}{old:Array Value}{c:TypeId}(a:o.op= .store 27 x y)(g:ev x= .pk b 0)(f:ev y= .agg (gz id seed d))(h:w.heap[b]?=some (.cells old c))(i:old.size=3):
 (execOp ev o).run tP w= .ok .skip (et w b (gz id seed d) c)/\∀e∈(execOp ev o).events tP w #[],∃k,e=⟨.cell ⟨b,k,none⟩,true,false⟩:=AZ (λw=>⟨k_,k_⟩) a g f h k_ i (by simp[gz,Va])
theorem iB{y:Operand}{r s e:Int}{j:Bool}{old:Array Value}{d:TypeId}(a:o.op= .store 36 x y)(g:ev x= .pk b 0)(f:ev y= .agg (L1.eE r j s e c))(h:w.heap[b]?=some (.cells old d))(i:old.size=5):
 (execOp ev o).run tP w= .ok .skip (et w b (L1.eE r j s e c) d)/\∀e∈(execOp ev o).events tP w #[],∃k,e=⟨.cell ⟨b,k,none⟩,true,false⟩:=AZ (λw=>⟨k_,k_⟩) a g f h k_ i (by simp[L1.eE,Va])
theorem MF{c:Nat}{id seed:ByteArray}{g:TypeId}(a:o.op= .load 27 x)(d:ev x= .pk b 0)(h:w.heap[b]?=some (.cells (gz id seed c) g)):(execOp ev o).run tP w= .ok (.value (.agg (gz id seed c))) w/\∀e∈(execOp ev o).events tP w #[],∃k,e=⟨.cell ⟨b,k,none⟩,false,false⟩:=by
 obtain⟨j,i⟩:=xn (P:=tP) (ty:=27) (n:=3) k_ k_ k_ h rfl;constructor
 ·simp[execOp,a,d,TN,V2,j]
 ·intro e f;simp[execOp,a,d,TN,V2]at f;exact i e f
section
variable{S:Nat->Prop}{b:Frame}{k:List Item}
theorem aT.lv{i:List Item}{d:Tmp}{p:Op}{n:Nat}{r:Obj}(x:aW F N ds a)(s:w.heap[n]?=some r)(j:¬S n)(q:∀(o:Oper) (c:Nat),o.op=p->(execOp a.eval o).run P (w.at c)= .ok (.value v) (w.at c)/\∀e∈(execOp a.eval o).events P (w.at c) #[],∃k,e=⟨.cell ⟨n,k,none⟩,false,false⟩)(next:∀a',aW ((d,v)::F) N ds a'->aT P Post S (cJ (b.atR a' (.inRegion ops rest::i)) cs) w)(y:gk 6 (b.atR a k)= .inRegion ops (m::rest)::i:=by rfl)
 (h:(ops[m]?).map (λo=>(o.dst,o.op,o.guard))=some (some d,p,none):=by rfl) (u:d<N:=by decide) (f:nd p=true:=by rfl):aT P Post S (cJ (b.atR a k) cs) w:=by
 refine aT.gr ?_ y;cases g:ops[m]? with
 |none=>rw[g]at h;cases h
 |some o=>
  rw[g]at h;simp only[Option.map_some,Option.some.injEq,Prod.mk.injEq]at h;obtain⟨A,l,z⟩:=h;refine aT.oper g (by simp[Region.wanted,z]) (λc e=>by rw[←l,e]at f;cases f) λc=>⟨.value v,w.at c,(q o c l).1,rfl,Nat.le_refl _,λe t=> ?_,aT.at ?_ c⟩
  ·obtain⟨k,rfl⟩:=(q o c l).2 e t;exact kb (aK s) j
  ·show aT P Post S (cJ ((b.atR a (.inRegion ops (m::rest)::i)).finish v) cs) w;rw[Frame.finish_atR,g,Option.bind_some,A];exact next _ (x.put u v)
theorem aT.ab{f:List Item}{d:Tmp}{p:Op}{cells:Array Value}(n:aW F N ds a)(g:∀(o:Oper) (w:World),o.op=p->(execOp a.eval o).run P w= .ok (.value (.pk w.heap.size 0)) (w.alloc (.cells cells t))/\(execOp a.eval o).events P w #[]=#[])
 (next:(∀r,S r->r<w.heap.size)->∀w' a',Bw w w'->w'.heap[w.heap.size]?=some (.cells cells t)->aW ((d, .pk w.heap.size 0)::F) N ds a'->aT P Post S (cJ (b.atR a' (.inRegion ops rest::f)) cs) w') (x:gk 6 (b.atR a k)= .inRegion ops (m::rest)::f:=by rfl)
 (h:(ops[m]?).map (λo=>(o.dst,o.op,o.guard))=some (some d,p,none):=by rfl) (j:d<N:=by decide) (e:nd p=true:=by rfl):aT P Post S (cJ (b.atR a k) cs) w:=
 aT.low λl=>aT.aa (u:= .pk w.heap.size 0) n (λo c i=>g o (w.at c) i) (λw' a' v s _ q=>next l w' a' v s q) x h j e
theorem lr{bk k:Nat}{c:Obj}{b:Bool}(d:w.heap[bk]?=some c)(a:¬S bk):∀e∈(#[⟨.cell ⟨bk,k,none⟩,b,false⟩]:Array Event),EvL (dj S) w.heap.size e:=λe f=>by
 obtain rfl:e=⟨.cell ⟨bk,k,none⟩,b,false⟩:=by simpa using f
 exact kb (aK d) a
end
theorem Hd.first{W:World}(a:2<=W.heap.size):Hd W (λ_=>False) (λ_=>False) W:=⟨a,bR,λ_ h=>h.elim,λ_ h=>h.elim⟩
theorem KZ:xZ tP 3:=λw=>⟨k_,k_⟩
section
variable{S:Nat->Prop}{k:List Item}
theorem Ix{w:World}(c:fr.kind= .normal)(e:fr.defers=[])(b:fr.mode= .returning)(d:P.funcs[fr.fn]?=some fn)(f:P.inits.idxOf? fr.fn=none)(a:(results fn fr.tmps).run P w= .ok v w):stepG P true (cJ fr []) w= .ended (.done v) w (seen P fr.fn ((results fn fr.tmps).events P w #[])):=by simp[stepG,unwind,doReturn,c,e,b,d,f,a,GStep.after]
theorem aT.finS{r:Nat}(c:P.funcs[f]?=some fn)(j:P.inits.idxOf? f=none)(b:fn.results=#[.tmp r])(hv:a.tmps[r]?=some v)(h:a.defers=[])(i:∀d,Post v (w.at d)):aT P Post S (cJ {(base f).atR a k with mode:= .returning} []) w:=by refine aT.fin rfl λd=>⟨v,_,Ix (fr:={(base f).atR a k with mode:= .returning}) rfl h rfl c j (lY (P:=P) b hv (w.at d)).1,λe g=> ?_,i d⟩;have:=da _ _ _ e g;rw[show(results fn ({(base f).atR a k with mode:= .returning}:Frame).tmps).events P (w.at d) #[]=#[]from(lY (P:=P) b hv (w.at d)).2]at this;simp at this
end
end
section
open Go.Conc Go.RowKit
section
variable{S:Nat->Prop}{b:Frame}{k:List Item}
theorem aT.draw{id:Nat}(h:∀t,aT P Post S (cJ (b.atR a (.inRegion ops (Region.schedule (P.follows .mixedOrders) ops t)::k)) cs) w):aT P Post S (cJ (b.atR a (.code (.region id ops true)::k)) cs) w:=
 aT.exec rfl λd=>by
  have c:(choose (.order (b.atR a (.code (.region id ops true)::k)).fn id)).run P (w.at d)= .ok ((w.at d).tape (w.at d).drawn (.order b.fn id)) {w.at d with drawn:=(w.at d).drawn+1}:=by simp[choose,Sem.run,Y3,Question.cut,Frame.atR]
  have e:=jk (P:=P) (main:=true) (listen:=true) (cs:=cs) (fr:=b.atR a (.code (.region id ops true)::k)) rfl c;exact⟨_,_,_,e,TB _,λe f=>by simp at f,(h _).at _⟩
def j7(P:Program)(S:Nat->Prop)(a:Act)(o:Oper)(w:World)(R:Value->World->Prop):Prop:=∀c,∃v w',(execOp a.eval o).run P (w.at c)= .ok (.value v) w'/\w.heap.size<=w'.heap.size/\(∀e∈(execOp a.eval o).events P (w.at c) #[],EvL (dj S) w'.heap.size e)/\R v w'
theorem aT.doesB{R:Value->World->Prop}(e:ops[n]?=some o)(f:TD o (yielded ops a.tmps)=true)(d:∀c,o.op≠ .defer c)(h:j7 P S a o w R)(next:∀v w',R v w'->aT P Post S (cJ (b.atR (a.put o.dst v) (.inRegion ops rest::k)) cs) w'):aT P Post S (cJ (b.atR a (.inRegion ops (n::rest)::k)) cs) w:=
 aT.oper e f d λc=>by obtain⟨v,w',l,j,i,g⟩:=h c;refine⟨.value v,w',l,rfl,j,i, ?_⟩;show aT P Post S (cJ ((b.atR a (.inRegion ops (n::rest)::k)).finish v) cs) w';rw[Frame.finish_atR,e,Option.bind_some];exact next v w' g
theorem aT.grows{id:Nat}{df:List Deferred}{fx:List (Nat×Value)}{ds:List Nat}{G:Nat->Value->World->Prop}(g:P.follows .mixedOrders=true)(j:mh ops ds (fx.map (·.1)) N=true)(f:∀n v w w',G n v w->Bw w w'->G n v w')
 (r:∀n o a w',n<ds.length->ops[n]?=some o->Bw w w'->(∀p∈fx,a.tmps[p.1]?=some p.2)->(∀m d,ds[m]?=some d->gt ops n m=true->∃v,a.tmps[d]?=some v/\G m v w')->j7 P S a o w' λv e=>G n v e/\Bw w' e)
 (c:Nat->Act->World->Prop) (q:∀a w',rZ df fx ds G N w a w' (λ_=>True)->c ds.length a w')
 (l:∀n o a w' rest,ds.length<=n->ops[n]?=some o->c n a w'->(∀a' e,c (n+1) a' e->aT P Post S (cJ (b.atR a' (.inRegion ops rest::k)) cs) e)->aT P Post S (cJ (b.atR a (.inRegion ops (n::rest)::k)) cs) w')
 (i:∀a w',c ops.size a w'->aT P Post S (cJ (b.atR a k) cs) w') (y:a.defers=df) (B:N<=a.tmps.size) (x:∀p∈fx,a.tmps[p.1]?=some p.2):aT P Post S (cJ (b.atR a (.code (.region id ops true)::k)) cs) w:=by obtain⟨C,u⟩:=zH j;refine aT.draw λt=> ?_;rw[kW g];exact Ip (Z:=λa L w=>aT P Post S (cJ (b.atR a (.inRegion ops L::k)) cs) w) (X:=λ_ o a w R=>j7 P S a o w R) (λn o a w' rest R A z s h next=>aT.doesB z (by unfold TD;rw[u n o A z]) s h next) C f (λn o a w' I H F _ E D=>r n o a w' I H F E D) c q l (λa w' h=>aT.plain rfl (i a w' h)) y B x (bR) t
end
section
variable{b:Frame}{k:List Item}
theorem Rn.cx{d:Tmp}{xs:Array Operand}{ats:Array TypeId}{vs:List Value}{i:List Item}{R:Value->World->Prop}{X:List PanicEntry->World->Prop}(C:aW F N ds a)(G:P.funcs[f]?=some fn)(L:Calls P f vs.toArray w λe w'=>(∃v,e= .returned v/\R v w')\/∃n,e= .panicked n/\X n w')
 (next:∀v w',R v w'->∀a',aW ((d,v)::F) N ds a'->Rn P Goal (b.atR a' (.inRegion ops rest::i)) cs w') (B:∀n w',X n w'->Rn P Goal {b.atR a (.inRegion ops (m::rest)::i)with mode:= .panicking n} cs w') (M:gk 6 (b.atR a k)= .inRegion ops (m::rest)::i:=by rfl)
 (h:(ops[m]?).map (λo=>(o.dst,o.op,o.guard))=some (some d, .call {callee:= .value (.func f),args:=xs,argTypes:=ats},none):=by rfl) (J:MN F xs.toList=some vs:=by rfl) (H:d<N:=by decide) (l:(fn.name== "runtime.NumGoroutine")=false:=by kernel_rfl) (I:fn.body.isNone=false:=by kernel_rfl):Rn P Goal (b.atR a k) cs w:=by
 refine Rn.gr ?_ M;cases s:ops[m]? with
 |none=>rw[s]at h;simp at h
 |some o=>
  obtain⟨Q,E,O⟩:=cB s h;have u:xs.map a.eval=vs.toArray:=by rw[←tZ C _ _ J,←Array.toList_map,Array.toArray_toList]
  refine Rn.enter s (O _) (by rw[E];simp) (bU (w:=w) E u (du G l I _)).1 ?_;obtain⟨S,w',D,x,r,_,p⟩:=L (b.atR a (.inRegion ops (m::rest)::i)::cs);rcases x with⟨v,rfl,x⟩|⟨n,rfl,K⟩
  ·have j:Steps P (lone (Frame.enter P f vs.toArray .normal) (b.atR a (.inRegion ops (m::rest)::i)::cs) w) (lone D (b.atR a (.inRegion ops (m::rest)::i)::cs) w'):=r;have g:=step_leave_returned (c:=b.atR a (.inRegion ops (m::rest)::i)) (cs:=cs) p;have q:(b.atR a (.inRegion ops (m::rest)::i)).finish v=b.atR (a.put (some d) v) (.inRegion ops rest::i):=(by rw[Frame.finish_atR,s,Option.bind_some,Q]);rw[q]at g;obtain⟨A,t,z,y⟩:=next v w' x _ (C.put H v)
   exact⟨A,t,((StepsIn.of_steps j).trans (StepsIn.one trivial g)).trans z,y⟩
  ·have j:Steps P (lone (Frame.enter P f vs.toArray .normal) (b.atR a (.inRegion ops (m::rest)::i)::cs) w) (lone D (b.atR a (.inRegion ops (m::rest)::i)::cs) w'):=r;have g:=step_leave_panicked (c:=b.atR a (.inRegion ops (m::rest)::i)) (cs:=cs) p;obtain⟨A,t,z,y⟩:=B n w' K;exact⟨A,t,((StepsIn.of_steps j).trans (StepsIn.one trivial g)).trans z,y⟩
def Qg(f:FuncId)(cs:List Frame)(R:Ending->World->Prop)(g:Goroutine)(w:World):Prop:=∃(a:Act) (k:List Item) (ch:List PanicEntry),g=cJ {(base f).atR a k with mode:= .panicking ch} cs/\a.defers=[]/\R (.panicked ch) w
theorem xJ{R:Ending->World->Prop}(c:P.funcs[f]?=some fn)(h:∀cs,Rn P (Qg f cs R) (TJ P f args .normal) cs w):Calls P f args w R:=λcs=>by obtain⟨j,b,g,a,k,i,rfl,e,d⟩:=h cs;exact⟨.panicked i,b,_,d,W3 g,rfl,rfl,e,fn,c⟩
theorem IR{R:Ending->World->Prop}{t:Tmp}{ty:TypeId}{d:TypeDesc}{w:World}(m:P.funcs[f]?=some fn)(c:fn.results=#[.cell t ty])(q:P.underlying ty=some d)(y:d.isRow=true)(v:(P.info? ty).map (·.size)=some n)
 (h:∀cs,Rn P (λg w'=>(∃(a:Act) (k:List Item) (b:Nat) (cells:Array Value) (l:TypeId),g=cJ {(base f).atR a k with mode:= .returning} cs/\a.defers=[]/\a.tmps[t]?=some (.pk b 0)/\w'.heap[b]?=some (.cells cells l)/\cells.size=n/\R (.returned (.agg cells)) w')\/Qg f cs R g w') (TJ P f args .normal) cs w):Calls P f args w R:=λcs=>by
 obtain⟨D,w',o,e|⟨a,k,C,rfl,e,i⟩⟩:=h cs
 ·obtain⟨a,k,b,cells,l,rfl,e,i,B,A,z⟩:=e;refine⟨.returned (.agg cells),w',{(base f).atR a k with mode:= .returning},z,W3 o,rfl,rfl,e,rfl,fn,m, ?_⟩;have s:a.tmps[t]?.getD undef= .pk b 0:=by rw[i];rfl
  have r:w'.rangeAt b 0 cells.toList:=λj x p=>by rw[TL];have:w'.cell? ⟨b,j,none⟩=cells[j]?:=(by simp[U6,B]);rw[this,←p,VG]
  have u:=run_loadVar_mid (P:=P) w' b 0 ty cells.toList d r q y (by rw[v];simp[A]);show(results fn a.tmps).run P w'=_;simp[results,c,s,asAddr,u]
 ·exact⟨.panicked C,w',_,i,W3 o,rfl,rfl,e,fn,m⟩
end
end
namespace L1
open Go.Conc Go.RowKit
theorem NW(a:o.op= .makeInterface 9 x)(b:ev x= .s s):(execOp ev o).run lT w= .ok (.value (.iface 9 (.s s))) w:=by
 have e:execOp ev o=(do pure (.value (←Vm 9 (.s s)))):=by simp only[execOp,a,b]
 have c:(do pure (.value (←Vm 9 (.s s))):Sem Next).run lT w= .ok (.value (.iface 9 (.s s))) w:=k_
 rw[e,c]
def uq(lo:Int)(cb rb:Nat)(fl:Value)(W:List Int)(w:World)(e:Ending)(w':World):Prop:=∃(v:Value) (on:Bool) (sl room:Int),e= .panicked [{v:=v,recovered:=false}]/\dL w' cb fl W on sl/\w'.heap[rb]?=some (.cells (iZ cb room true) 75)/\(lo<=room/\room<=0)/\Ex (XR cb rb) w w'
section
variable{cb rb:Nat}{fl:Value}{W:List Int}{on:Bool}{sl:Int}{room:Int}
theorem uq.from{b a:Int}{e:Ending}(c:Ex (XR cb rb) w0 w)(d:a<=b)(h:uq b cb rb fl W w e w'):uq a cb rb fl W w0 e w':=let ⟨v,on,sl,room,h1,h2,h3,h4,h5⟩:=h;⟨v,on,sl,room,h1,h2,h3,⟨Int.le_trans d h4.1,h4.2⟩,c.trans h5 λ_ _ e=>e⟩
theorem Hy(n:Int)(j:room<=0)(h:dL w cb fl W on sl)(g:w.heap[rb]?=some (.cells (iZ cb room false) 75)):Calls lT 73 #[.pk rb 0, .i n] w (uq room cb rb fl W w):=by
 have f:=ua h g;refine xJ Lf.func73 λk=> ?_;rw[aZ (N:=27) [.pk rb 0, .i n] Lf.func73 IV rfl];have b:=aQ [.pk rb 0, .i n] 27 s_
 iterate 5 refine Rn.uc b λa b=> ?_
 refine Rn.p rfl (Rn.cond _ (b.G 8) ?_);rw[decide_eq_true j]
 iterate 3 refine Rn.uc b λa b=> ?_
 refine Rn.nn b (λo c=>gj (v:= .bool true) rfl rfl k_ c (b.G 11) rfl g (d_:2<3)) λa b=> ?_;rw[show(iZ cb room false).setIfInBounds 2 (.bool true)=iZ cb room true from rfl];have i:=gK (w:=w) rb (iZ cb room true) 75;refine Rn.vv (v:= .iface 9 (.string ⟨#[116,104,101,32,114,117,110,32,105,115,32,99,117,116]⟩)) b (λo c=>NW c rfl) λa b=> ?_;refine Rn.gr (Rn.pan (d:=12) b rfl rfl rfl rfl (Rn.now ⟨a,_,_,rfl,b.defers,_,on,sl,room,rfl,h.ex i f,cP g,⟨Yz _,j⟩,Ex.wide i λ_ _ e=> .inr e⟩))
end
section
variable{cb rb:Nat}{fl:Value}{W:List Int}{on:Bool}{sl:Int}{room:Int}
theorem xj(n:Int)(a:room<9223372036854775808)(h:dL w cb fl W on sl)(c:w.heap[rb]?=some (.cells (iZ cb room false) 75)):Calls lT 73 #[.pk rb 0, .i n] w λe w'=>(∃v,e= .returned v/\(v= .tuple #[]/\0<room/\dL w' cb fl W on sl/\w'.heap[rb]?=some (.cells (iZ cb (room- 1) false) 75)/\Ex (XR cb rb) w w'/\w'.heap.size=w.heap.size))\/∃d,e= .panicked d/\uq room cb rb fl W w (.panicked d) w':=by
 by_cases b:0<room
 ·exact(tM n b a h c).mono λe w' ⟨i,g⟩=> .inl ⟨_,i,rfl,b,g⟩
 ·exact(Hy n o_ h c).mono λe w' f=> .inr (by obtain⟨v,on,sl,room,rfl,h⟩:=f;exact⟨_,rfl,v,on,sl,room,rfl,h⟩)
theorem AW(n c:Int)(d:room<9223372036854775808)(h:dL w cb fl W on sl)(k:w.heap[rb]?=some (.cells (iZ cb room false) 75)):Calls lT 74 #[.pk rb 0, .i n, .i c] w λe w'=>(∃v,e= .returned v/\(v= .agg (eE 0 false 0 0 c)/\dL w' cb fl W on sl/\w'.heap[rb]?=some (.cells (iZ cb (room- 1) false) 75)/\Ex (XR cb rb) w w'))\/∃f,e= .panicked f/\uq room cb rb fl W w (.panicked f) w':=by
 by_cases j:0<room
 ·exact(Gz n c j d h k).mono λe w' ⟨g,q⟩=> .inl ⟨_,g,rfl,q⟩
 ·refine xJ Lf.func74 λt=> ?_;rw[aZ (N:=12) [.pk rb 0, .i n, .i c] Lf.func74 A9 rfl];have b:=aQ [.pk rb 0, .i n, .i c] 12 s_;refine Rn.al b (λo m=>qE m) λs a i u r b=> ?_;have g:=h.ex (Ex.of_below (X:=λ_=>False) i) (λe=>e)
  iterate 2 refine Rn.uc b λa b=> ?_
  refine Rn.cx b Lf.func73 (xj n d g (bk i k)) (λv w' l=>absurd l.2.1 j) λf w' p=> ?_;exact Rn.now ⟨a,_,f,rfl,b.defers, .inr ⟨f,rfl,p.from (Ex.of_below i) (Yz _)⟩⟩
theorem Ou(n c:Int)(f:room<9223372036854775808)(h:dL w cb fl W on sl)(l:w.heap[rb]?=some (.cells (iZ cb room false) 75)):Calls lT 77 #[.pk rb 0, .i n, .i c] w λe w'=>(∃v,e= .returned v/\(v= .agg (eE 0 true n c 0)/\dL w' cb fl W true n/\w'.heap[rb]?=some (.cells (iZ cb (room- 1) false) 75)/\Ex (XR cb rb) w w'))\/∃g,e= .panicked g/\uq room cb rb fl W w (.panicked g) w':=by
 by_cases s:0<room
 ·exact(Ic n c s f h l).mono λe w' ⟨p,m⟩=> .inl ⟨_,p,rfl,m⟩
 ·refine xJ Lf.func77 λC=> ?_;rw[aZ (N:=18) [.pk rb 0, .i n, .i c] Lf.func77 Aa rfl];have d:=aQ [.pk rb 0, .i n, .i c] 18 s_;refine Rn.al d (λo u=>qE u) λB a q D z d=> ?_;have i:=ua h l;have p:=h.ex (Ex.of_below (X:=λ_=>False) q) (λe=>e);have k:=bk q l
  iterate 5 refine Rn.uc d λa d=> ?_
  refine Rn.cw d Lf.func92 (zt n p) λA ⟨m,r,y⟩ a d=> ?_;have j:=r.at (UP i) k;refine Rn.uc d λa d=> ?_;refine Rn.cx d Lf.func73 (xj 9 f m j) (λv w' t=>absurd t.2.1 s) λg w' x=> ?_;exact Rn.now ⟨a,_,g,rfl,d.defers, .inr ⟨g,rfl,x.from ((Ex.of_below q).trans r λb _ e=> .inl e) (Yz _)⟩⟩
end
section
variable{cb rb ob zb bu bh:Nat}{fl:Value}{W:List Int}{L:ByteArray}{st le:Int}{us:List Bool}{hs:List ByteArray}
theorem GG(C:KS.length=64)(R:us.length=4)(V:hs.length=4)(i:¬XR cb rb 0)(T:w0.heap.size<=ob)(X:cb<w0.heap.size)(S:rb<w0.heap.size)(G:k<2){E gr room:Int}(U:E+1<=room)(y:room<9223372036854775808)(g:Sv w0 cb rb ob zb bu bh fl W L st le us hs KS room w)
 (d:aW [(0, .pt rb),(2, .pt ob),(3, .pt zb),(5, .i gr),(37, .agg #[.i 16, .i 32]),(38, .i k)] 71 [] a)
 (I:∀p (a:Act) (k:List Item) w',a.defers=[]->uq E cb rb fl W w0 (.panicked p) w'->Rn lT Goal {(base 59).atR a k with mode:= .panicking p} cs w')
 (Q:∀n a' w' K,sr KS (L.extract (k*8192) (k*8192+8192)) le us hs n 0->aW [(2, .pt ob)] 71 [] a'->w'.heap[ob]?=some (.cells (eE 0 true k n 0) 36)->dL w' cb fl W true k->w'.heap[rb]?=some (.cells (iZ cb (room- 1- 1) false) 75)->lK w' fl L->Ex (XR cb rb) w0 w'->Rn lT Goal ((base 59).atR a' (.code .ret::K)) cs w')
 (P:∀n c a' w',sr KS (L.extract (k*8192) (k*8192+8192)) le us hs n c->c≠0->aW [(0, .pt rb),(2, .pt ob),(3, .pt zb),(5, .i (max gr c)),(37, .agg #[.i 16, .i 32]),(38, .i ((k+1:Nat):Int))] 71 [] a'->Sv w0 cb rb ob zb bu bh fl W L st le us hs KS (room- 1) w'->Rn lT Goal ((base 59).atR a' [.code (Rk Tryz.f59), .inLoop (Rk Tryz.f59), .inBlock 0, .code (I6 Tryz.f59)]) cs w'):
 Rn lT Goal ((base 59).atR a [.code (Rk Tryz.f59), .inLoop (Rk Tryz.f59), .inBlock 0, .code (I6 Tryz.f59)]) cs w:=by
 refine Rn.uc d λa d=> ?_;refine Rn.p rfl (Rn.p rfl (Rn.cond _ (d.G 39) ?_));rw[decide_eq_true (o_:(k:Int)<2)];refine Rn.uc d λa d=> ?_;refine Rn.vv d (λo j=>R2 G j (d.G 37) (d.G 38)) λa d=> ?_
 iterate 2 refine Rn.uc d λa d=> ?_
 have Y:=g.fls.1;obtain⟨n,c,B,A⟩:=LQ KS C (L.extract (k*8192) (k*8192+8192)) st le (.sk bu 4 4) (.sk bh 4 4) us hs o_ (by rw[TT];omega);have H:=Cc B;have d:aW [(0, .pt rb),(2, .pt ob),(3, .pt zb),(5, .i gr),(37, .agg #[.i 16, .i 32]),(38, .i k),(6, .i k),(7, .i ((16+16*k:Nat):Int))] 71 [] a:=d.only ⟨rfl,rfl,rfl,rfl,rfl,rfl,rfl,rfl,trivial⟩;have F:=g.run;have q:=g.fus;refine Rn.p rfl (Rn.p rfl ?_);refine Rn.tabL d [(43, .pt rb),(44, .pt rb),(45, .pt rb),(46, .pt cb),(47, .i k),(48, .s (L.extract (k*8192) (k*8192+8192))),(49, .agg (i7 st le (.sk bu 4 4) (.sk bh 4 4))),(50, .tuple #[.i n, .i c]),(42, .tuple #[.i n, .i c]),(51, .i n),(52, .i c),(8, .i n),(9, .i c)] [43,47,42,8,9] [(8, .i n),(9, .i c)]
  ⟨λz=>dv (GL z.qq zx),
   λz=>dv (CW 0 d_ z.qq zx),
   λz=>dv (aO Dg z.qq zx (zc z.b)).1,
   λz=>z.c2 (z.k 46) (z.k 47) ((FR k G (g.below i z.b).ch (g.below i z.b).fls).mono λe w' ⟨h1,D⟩=>⟨h1,D▸bR⟩),
   λz=>dv (yH z.qq zx (bk z.b q)),
   λz=>z.c2 (z.k 48) (z.k 49) (A _ (CP (g.below i z.b).us (by simpa using R)) (CP (g.below i z.b).hs (by simpa using V)) (g.below i z.b).tab (g.below i z.b).pos),
   tq,
   tq,
   trivial⟩ λa w1 b1 d=> ?_
 have h:=g.below i b1;have e2:((16+16*k:Nat):Int)=16+16*(k:Int):=o_
 iterate 4 refine Rn.uc d λa d=> ?_
 refine Rn.cx d Lf.func73 (xj _ y h.ch h.run) (λv s x a d=> ?_) λp s l=>I p _ _ s d.defers (l.from h.ex o_);obtain⟨rfl,hr,D,O,J,z2⟩:=x;have f:=h.ex' i J D O
 iterate 2 refine Rn.uc d λa d=> ?_
 refine Rn.p rfl (Rn.cond _ (d.G 59) ?_);by_cases l:c=0
 ·subst l
  iterate 3 refine Rn.uc d λa d=> ?_
  refine Rn.cx d Lf.func77 (Ou k n o_ f.ch f.run) (λv M x a d=> ?_) λp s l=>I p _ _ s d.defers (l.from f.ex o_);obtain⟨rfl,Z,N,t⟩:=x;have u:=t.at (mc f.ch f.run f.out d_ d_) f.out;refine Rn.nn d (λo j=>oC j (d.G 2) (d.G 63) u rfl) λa d=> ?_;have r:=gK (w:=M) ob (eE 0 true k n 0) 36;refine Rn.p rfl ?_;refine Q n _ _ _ B (d.only ⟨rfl,trivial⟩) (cP u) (Z.ex r o_) (r.at o_ N) (((f.fls.keep t (oH f.ch f.run)).keep r λb cs fr m e=> ?_)) ((f.ex.trans t λ_ _ e=>e).trans r λb m e=>o_);rw[e,u]at m;injection m with m;injection m with _ m;cases m
 ·rw[show(c==0)=false from by simpa using l]
  iterate 2 refine Rn.uc d λa d=> ?_
  refine Rn.vv d (λo j=>KD j (d.G 64) (d.G 65)) λa d=> ?_;refine Rn.uc d λa d=> ?_;refine Rn.vv d (λo j=>dh (n:=1) j (d.G 38) rfl o_) λa d=> ?_;refine Rn.uc d λa d=> ?_;exact Rn.p rfl (Rn.p rfl (P n c _ _ B l (d.only ⟨rfl,rfl,rfl,rfl,rfl,rfl,trivial⟩) f))
theorem NE(A:KS.length=64)(Q:us.length=4)(R:hs.length=4)(S:¬XR cb rb 0)(t:w0.heap.size<=ob)(u:cb<w0.heap.size)(r:rb<w0.heap.size){lo room:Int}(Y:lo+2<=room)(I:room<9223372036854775808)(f:Sv w0 cb rb ob zb bu bh fl W L st le us hs KS room w)
 (d:aW [(0, .pt rb),(2, .pt ob),(3, .pt zb)] 71 [] a)
 (P:∀D (a:Act) (k:List Item) w',a.defers=[]->uq lo cb rb fl W w0 (.panicked D) w'->Rn lT Goal {(base 59).atR a k with mode:= .panicking D} cs w')
 (G:∀(j:Bool) (s n c:Int) a' w' K,(∃q g,sr KS (L.extract 0 8192) le us hs q g/\((g=0/\j=true/\s=0/\n=q/\c=0)\/
  (g≠0/\∃C h,sr KS (L.extract 8192 16384) le us hs C h/\((h=0/\j=true/\s=1/\n=C/\c=0)\/(h≠0/\j=false/\s=0/\n=0/\c=max g h)))))->aW [(2, .pt ob)] 71 [] a'->w'.heap[ob]?=some (.cells (eE 0 j s n c) 36)->dL w' cb fl W j s->(∃i,w'.heap[rb]?=some (.cells (iZ cb i false) 75))->lK w' fl L->Ex (XR cb rb) w0 w'->Rn lT Goal ((base 59).atR a' (.code .ret::K)) cs w'):
 Rn lT Goal ((base 59).atR a [.code (GQ Tryz.f59)]) cs w:=by
 refine Rn.uc d λa d=> ?_;refine Rn.vv d (λo l=>NQ rfl l rfl rfl) λa d=> ?_;refine Rn.uc d λa d=> ?_;refine Rn.p rfl (Rn.p rfl (Rn.p rfl ?_));refine GG (k:=0) (E:=lo) A Q R S t u r o_ o_ I f (d.only ⟨rfl,rfl,rfl,rfl,rfl,rfl,trivial⟩) P (λn a w K O d l y J M H=>G true 0 n 0 a w K ⟨n,0,O, .inl ⟨rfl,rfl,rfl,rfl,rfl⟩⟩ d l y ⟨_,J⟩ M H) λq g a w p x d f=>GG (k:=1) (E:=lo) A Q R S t u r o_ o_ o_ f d P (λn a w K O d l y J M H=>G true 1 n 0 a w K ⟨q,g,p, .inr ⟨x,n,0,O, .inl ⟨rfl,rfl,rfl,rfl,rfl⟩⟩⟩ d l y ⟨_,J⟩ M H) λC h a w z N d f=> ?_;have b0:=Cc p;have b1:=Cc z;refine Rn.uc d λa d=> ?_;refine Rn.p rfl (Rn.p rfl (Rn.cond _ (d.G 39) ?_));rw[decide_eq_false o_]
 iterate 2 refine Rn.uc d λa d=> ?_
 refine Rn.cx d Lf.func74 (AW 4 (max (max 0 g) h) o_ f.ch f.run) (λv T X a d=> ?_) λD U y=>P D _ _ U d.defers (y.from f.ex o_);obtain⟨rfl,Z,V,E⟩:=X;have F:=E.at (mc f.ch f.run f.out d_ d_) f.out;refine Rn.nn d (λo l=>oC l (d.G 2) (d.G 70) F rfl) λa d=> ?_;have B:=gK (w:=T) ob (eE 0 false 0 0 (max (max 0 g) h)) 36;refine Rn.p rfl ?_;refine G false 0 0 (max (max 0 g) h) _ _ _ ⟨q,g,p, .inr ⟨x,C,h,z, .inr ⟨N,rfl,rfl,rfl,o_⟩⟩⟩ (d.only ⟨rfl,trivial⟩) (cP F) (Z.ex B o_) ⟨_,B.at o_ V⟩ (((f.fls.keep E (oH f.ch f.run)).keep B λb cs fr m e=> ?_)) ((f.ex.trans E λ_ _ e=>e).trans B λb m e=>o_);rw[e,F]at m;injection m with m;injection m with _ m;cases m
end
def Jm(lo:Int)(KS W:List Int)(L:ByteArray)(fl:Value)(cb rb:Nat)(w:World)(e:Ending)(w':World):Prop:=(∃v,e= .returned v/\∃j s n c,v= .agg (eE 0 j s n c)/\lJ KS W L j s n c/\dL w' cb fl W j s/\(∃room',w'.heap[rb]?=some (.cells (iZ cb room' false) 75))/\lK w' fl L/\Ex (XR cb rb) w w')\/∃ch,e= .panicked ch/\uq lo cb rb fl W w (.panicked ch) w'
def Ea(lo:Int)(KS W:List Int)(L:ByteArray)(fl:Value)(cb rb:Nat)(w:World)(cs:List Frame)(g:Goroutine)(w':World):Prop:=(∃(a:Act) (k:List Item) (bk:Nat) (cells:Array Value) (tt:TypeId),g=cJ {(base 59).atR a k with mode:= .returning} cs/\a.defers=[]/\a.tmps[2]?=some (.pk bk 0)/\w'.heap[bk]?=some (.cells cells tt)/\cells.size=5/\Jm lo KS W L fl cb rb w (.returned (.agg cells)) w')\/Qg 59 cs (Jm lo KS W L fl cb rb w) g w'
section
variable{cb rb:Nat}{fl:Value}{W:List Int}{L:ByteArray}{room:Int}
theorem JV(hrd:CB)(hKl:KS.length=64)(h:dL w cb fl W false 0)(hW:gW W)(hb:w.heap[rb]?=some (.cells (iZ cb room false) 75))(hr2:room<9223372036854775808)(hf:lK w fl L)(h0:¬XR cb rb 0)(hK:w.rangeAt 0 0 (aH KS)):
 Calls lT 59 #[.pk rb 0] w (Jm (room- 3) KS W L fl cb rb w):=by
 refine IR (t:=2) (ty:=36) (n:=5) Lf.func59 rfl (by rw[cq];exact Tryz.underlying36) rfl sH λcs=> ?_;show Rn _ (Ea (room- 3) KS W L fl cb rb w cs) _ _ _;rw[aZ (N:=71) [.pk rb 0] Lf.func59 FU rfl];have hF:=aQ [.pk rb 0] 71 s_;refine Rn.al hF (λo ho=>qE ho) λw1 a b1 c1 z1 hF=> ?_;have hl:=h.lt;have hl2:=aK hb;have hne:=ua h hb;have h1:=h.ex (Ex.of_below (X:=λ_=>False) b1) (λe=>e);have f1:=hf.keep (Ex.of_below (X:=λ_=>False) b1) (λ_ _ _ _ e=>e);have hK1:=js (Ex.of_below (X:=λ_=>False) b1) (λe=>e) o_ hK;have hb1:=bk b1 hb;refine Rn.uc hF λa hF=> ?_;have ct:∀ch (a:Act) (k:List Item) w',a.defers=[]->uq (room- 3) cb rb fl W w (.panicked ch) w'->Rn lT (Ea (room- 3) KS W L fl cb rb w cs) {(base 59).atR a k with mode:= .panicking ch} cs w':=λch a k w' hd hc=>Rn.now (.inr ⟨a,k,ch,rfl,hd, .inr ⟨ch,rfl,hc⟩⟩);refine Rn.cx hF Lf.func73 (xj 1 hr2 h1 hb1) (λv w2 hv a hF=> ?_) λch w2 hc=>ct ch _ _ w2 hF.defers (hc.from (Ex.of_below b1) o_);obtain⟨rfl,hr,h2,hb2,x2,z2⟩:=hv;have c2:=x2.at (by rintro(e|e)<;>omega) c1;have f2:=f1.keep x2 (oH h1 hb1);have hK2:=js x2 h0 o_ hK1;have X2:Ex (XR cb rb) w w2:=(Ex.of_below b1).trans x2 λb _ e=>e
 iterate 6 refine Rn.uc hF λa hF=> ?_
 refine Rn.vv hF (λo ho=>xb ho (hF.G 18)) λa hF=> ?_;refine Rn.cl hF Lf.func36 (hrd W w2 cb 1 85 (TB _) hW (IQ h2) h2.lt) λv w3 hv a hF=> ?_;obtain⟨st,le,c,pu,lu,qu,ph,lh,qh,us,hs,rfl,hP,b3,hz⟩:=hv;have h3:=h2.ex (Ex.of_below (X:=λ_=>False) b3) (λe=>e);have f3:=f2.keep (Ex.of_below (X:=λ_=>False) b3) (λ_ _ _ _ e=>e);have hl3:=h2.lt;have hK3:=js (Ex.of_below (X:=λ_=>False) b3) (λe=>e) o_ hK2;have hb3:=bk b3 hb2;have c3:=bk b3 c2;have z3:=b3.size
 iterate 3 refine Rn.uc hF λa hF=> ?_
 refine Rn.al hF (λo ho=>HT ho) λw4 a b4 c4 z4 hF=> ?_;have h4:=h3.ex (Ex.of_below (X:=λ_=>False) b4) (λe=>e);have f4:=f3.keep (Ex.of_below (X:=λ_=>False) b4) (λ_ _ _ _ e=>e);have hK4:=js (Ex.of_below (X:=λ_=>False) b4) (λe=>e) o_ hK3;have hb4:=bk b4 hb3;have o4:=bk b4 c3;refine Rn.nn hF (λo ho=>vj ho (hF.G 3) (hF.G 21) c4 rfl) λa hF=> ?_;have x5:=gK (w:=w4) w3.heap.size (i7 st le (.slice pu lu qu) (.slice ph lh qh)) 48;have c5:=cP (w:=w4) (cs:=i7 st le (.slice pu lu qu) (.slice ph lh qh)) (t:=48) c4;have X5:Ex (XR cb rb) w (et w4 w3.heap.size (i7 st le (.slice pu lu qu) (.slice ph lh qh)) 48):=((X2.trans (Ex.of_below (X:=λ_=>False) b3) λ_ _ e=>e.elim).trans (Ex.of_below (X:=λ_=>False) b4) λ_ _ e=>e.elim).trans x5 λb hb e=>o_
 have h5:=h4.ex x5 o_;have hb5:=x5.at o_ hb4;have o5:=x5.at o_ o4;have f5:=f4.keep x5 λb cs fr hb e=>by rw[e,c4]at hb;injection hb with hb;injection hb with _ hb;cases hb
 have hK5:=js x5 o_ o_ hK4;have hz5:c=0->∃bu bh,pu=some ⟨bu,0,none⟩/\lu=4/\qu=4/\ph=some ⟨bh,0,none⟩/\lh=4/\qh=4/\(et w4 w3.heap.size (i7 st le (.slice pu lu qu) (.slice ph lh qh)) 48).heap[bu]?=some (.cells (us.map Value.bool).toArray 4)/\(et w4 w3.heap.size (i7 st le (.slice pu lu qu) (.slice ph lh qh)) 48).heap[bh]?=some (.cells (hs.map Value.string).toArray 9):=λe=>by obtain⟨bu,bh,e1,e2,e3,e4,e5,e6,e7,e8⟩:=hz e;have l7:=aK e7;have l8:=aK e8;exact⟨bu,bh,e1,e2,e3,e4,e5,e6,x5.at o_ (bk b4 e7),x5.at o_ (bk b4 e8)⟩
 have s5:w.heap.size<=(et w4 w3.heap.size (i7 st le (.slice pu lu qu) (.slice ph lh qh)) 48).heap.size:=X5.size;clear hz;revert c5 X5 h5 hb5 o5 f5 hK5 hz5 s5;generalize et w4 w3.heap.size (i7 st le (.slice pu lu qu) (.slice ph lh qh)) 48=w5;intro c5 X5 h5 hb5 o5 f5 hK5 hz5 s5;clear x5 hK4 hb4 o4 h4 f4 h3 f3 hK3 hb3 c3 h2 f2 hK2 hb2 c2
 iterate 3 refine Rn.uc hF λa hF=> ?_
 refine Rn.p rfl (Rn.cond _ (hF.G 24) ?_);have fin:∀(c':Int) {a:Act} {w6 w7:World} {K:List Item},lJ KS W L false 0 0 c'->dL w6 cb fl W false 0->w6.heap[rb]?=some (.cells (iZ cb (room- 1- 1) false) 75)->Ex (XR cb rb) w5 w6->w7=et w6 w.heap.size (eE 0 false 0 0 c') 36->aW [(2, .pt w.heap.size)] 71 [] a->Rn lT (Ea (room- 3) KS W L fl cb rb w cs) ((base 59).atR a (.code .ret::K)) cs w7:=λc' a w6 w7 K hst h6 r6 x6 e7 hF=>by subst e7;have o6:=x6.at (mc h5 hb5 o5 d_ d_) o5;have x7:=gK (w:=w6) w.heap.size (eE 0 false 0 0 c') 36;refine Rn.ends rfl (.inr ⟨_,rfl⟩) (Rn.now (.inl ⟨_,_,w.heap.size,_,_,rfl,hF.defers,hF.slot 2 _ rfl,cP o6,rfl, .inl ⟨_,rfl,false,0,0,c',rfl,hst,h6.ex x7 o_,⟨_,x7.at o_ r6⟩,((f5.keep x6 (oH h5 hb5)).keep x7 λb cs fr hb e=> ?_),(X5.trans x6 λ_ _ e=>e).trans x7 λb hb e=>o_⟩⟩));rw[e,o6]at hb;injection hb with hb;injection hb with _ hb;cases hb
 by_cases hc:c=0
 ·subst hc;obtain⟨bu,bh,rfl,rfl,rfl,rfl,rfl,rfl,hu5,hh5⟩:=hz5 rfl;have hS:Sv w cb rb w.heap.size w3.heap.size bu bh fl W L st le us hs KS (room- 1) w5:=⟨h5,hb5,f5,o5,c5,hu5,hh5,hK5,X5⟩;have hlen:us.length=4/\hs.length=4:=by
   rcases hP with⟨_,_,_,_,rfl,rfl⟩|⟨_,e⟩
   ·exact⟨by simp[No],by simp[OB]⟩
   ·cases e
  have go:(st=255\/st=3855)->∀{a:Act},aW [(0, .pt rb),(2, .pt w.heap.size),(3, .pt w3.heap.size)] 71 [] a->Rn lT (Ea (room- 3) KS W L fl cb rb w cs) ((base 59).atR a [.code (GQ Tryz.f59)]) cs w5:=λhst a hF=>by refine NE (lo:=room- 3) hKl hlen.1 hlen.2 h0 (TB _) hl hl2 o_ o_ hS hF ct λj s n c a' w' K hQ hF ho hch hrn hfl hx=> ?_;exact Rn.ends rfl (.inr ⟨_,rfl⟩) (Rn.now (.inl ⟨_,_,w.heap.size,_,_,rfl,hF.defers,hF.slot 2 _ rfl,ho,rfl, .inl ⟨_,rfl,j,s,n,c,rfl,⟨st,le,0,us,hs,hP, .inr (.inr ⟨rfl,hst,hQ⟩)⟩,hch,hrn,hfl,hx⟩⟩))
  iterate 4 refine Rn.uc hF λa hF=> ?_
  by_cases e1:st=255
  ·rw[show(st !=255)=false from by simpa using e1]at hF
   iterate 3 refine Rn.us hF λa hF=> ?_
   refine Rn.vv hF (λo ho=>yZ ho (hF.G 30) rfl) λa hF=> ?_;refine Rn.p rfl (Rn.cond _ (hF.G 34) ?_);exact Rn.p rfl (go (.inl e1) (hF.only ⟨rfl,rfl,rfl,trivial⟩))
  ·rw[show(st !=255)=true from by simpa using e1]at hF
   iterate 3 refine Rn.uc hF λa hF=> ?_
   refine Rn.vv hF (λo ho=>yY ho (hF.G 30) (hF.G 33)) λa hF=> ?_;refine Rn.p rfl (Rn.cond _ (hF.G 34) ?_);by_cases e2:st=3855
   ·rw[show(st !=3855)=false from by simpa using e2];exact Rn.p rfl (go (.inr e2) (hF.only ⟨rfl,rfl,rfl,trivial⟩))
   ·rw[show(st !=3855)=true from by simpa using e2];refine Rn.uc hF λa hF=> ?_;refine Rn.cx hF Lf.func74 (AW 3 2 o_ h5 hb5) (λv w6 hv a hF=> ?_) λch w2 hc=>ct ch _ _ w2 hF.defers (hc.from X5 o_);obtain⟨rfl,h6,r6,x6⟩:=hv;refine Rn.nn hF (λo ho=>oC ho (hF.G 2) (hF.G 36) (x6.at (mc h5 hb5 o5 d_ d_) o5) rfl) λa hF=> ?_;exact Rn.p rfl (fin 2 ⟨st,le,0,us,hs,hP, .inr (.inl ⟨rfl,e1,e2,rfl,rfl,rfl,rfl⟩)⟩ h6 r6 x6 rfl (hF.only ⟨rfl,trivial⟩))
 ·rw[show(c !=0)=true from by simpa using hc];refine Rn.uc hF λa hF=> ?_;refine Rn.cx hF Lf.func74 (AW 2 1 o_ h5 hb5) (λv w6 hv a hF=> ?_) λch w2 hc=>ct ch _ _ w2 hF.defers (hc.from X5 o_);obtain⟨rfl,h6,r6,x6⟩:=hv;refine Rn.nn hF (λo ho=>oC ho (hF.G 2) (hF.G 26) (x6.at (mc h5 hb5 o5 d_ d_) o5) rfl) λa hF=> ?_;exact Rn.p rfl (fin 1 ⟨st,le,c,us,hs,hP, .inl ⟨hc,rfl,rfl,rfl,rfl⟩⟩ h6 r6 x6 rfl (hF.only ⟨rfl,trivial⟩))
end
def RV(room:Int)(KS W:List Int)(L:ByteArray)(fl:Value)(cb rb:Nat)(w:World)(v:Value)(w':World):Prop:=((∃j s n c room',v= .agg (eE 0 j s n c)/\i8 KS W L fl cb j s n c w'/\w'.heap[rb]?=some (.cells (iZ cb room' false) 75))\/(v= .agg (eE 0 false 0 0 0)/\room<=3/\dL w' cb fl W false 0/\lK w' fl L/\∃room',w'.heap[rb]?=some (.cells (iZ cb room' true) 75)))/\Ex (XR cb rb) w w'
section
variable{cb rb:Nat}{fl:Value}{W:List Int}{L:ByteArray}{room:Int}
theorem RE(hrd:CB)(hKl:KS.length=64)(h:dL w cb fl W false 0)(hW:gW W)(hb:w.heap[rb]?=some (.cells (iZ cb room false) 75))(hr2:room<9223372036854775808)(hf:lK w fl L)(h0:¬XR cb rb 0)(hK:w.rangeAt 0 0 (aH KS))(cs:List Frame):
 Rn lT (λg w'=>∃(a:Act) (k:List Item) (bk:Nat) (cells:Array Value) (tt:TypeId),g=cJ {(base 43).atR a k with mode:= .returning} cs/\a.defers=[]/\a.tmps[2]?=some (.pk bk 0)/\w'.heap[bk]?=some (.cells cells tt)/\cells.size=5/\RV room KS W L fl cb rb w (.agg cells) w') (TJ lT 43 #[.pk rb 0] .normal) cs w:=by
 rw[aZ (N:=6) [.pk rb 0] Lf.func43 Pn rfl];have hF:=aQ [.pk rb 0] 6 s_;have hl:=h.lt;have hl2:=aK hb;refine Rn.al hF (λo ho=>CZ rfl ho (hF.G 0)) λw1 a b1 c1 z1 hF=> ?_;refine Rn.al hF (λo ho=>qE ho) λw2 a b2 c2 z2 hF=> ?_;have B2:Bw w w2:=aE b1 b1.size b2;have h2:=h.ex (Ex.of_below (X:=λ_=>False) B2) (λe=>e);have f2:=hf.keep (Ex.of_below (X:=λ_=>False) B2) (λ_ _ _ _ e=>e);have hK2:=js (Ex.of_below (X:=λ_=>False) B2) (λe=>e) o_ hK;have hb2:=bk B2 hb;have c1:=bk b2 c1;refine Rn.vv (w':=w2) hF (v:= .func (.func 58) #[] #[.pk w.heap.size 0]) (λo ho=> ?_) λa hF=> ?_
 ·have:=(fv (ev:=a.eval) (w:=w2) lT (a:=#[.tmp 1]) ho).1
  rwa [show(#[Operand.tmp 1]:Array Operand).map a.eval=#[.pk w.heap.size 0]from by simp[hF.G 1]]at this
 refine Rn.dfr (d:=3) hF rfl rfl rfl rfl rfl rfl rfl rfl λa hF=> ?_;refine Rn.vv hF (λo ho=>(aO (v:= .pk rb 0) pC ho (hF.G 1) ((aG c1 0).trans rfl)).1) λa hF=> ?_;refine Rn.cx hF Lf.func59 (JV hrd hKl h2 hW hb2 hr2 f2 h0 hK2) (λv w3 hv a hF=> ?_) λch w3 hc=> ?_
 rotate_left
 ·obtain⟨v,on,sl,room',e,h3,r3,hlo,x3⟩:=hc;cases e;have o3:=x3.at (by rintro(e|e)<;>omega) c2;have p3:=x3.at (by rintro(e|e)<;>omega) c1;have f3:=f2.keep x3 (oH h2 hb2);have hne:=ua h hb;refine Rn.dcall (g:=58) s_ hF.defers Lf.func58 k_ d_ ?_;have sl2:=hF.slot 2 _ rfl;generalize hfr:({{(base 43).atR a _ with mode:= .panicking [{v:=v,recovered:=false}]}with defers:=[]}:Frame)=frD;have hmode:frD.mode= .panicking [{v:=v,recovered:=false}]:=by rw[←hfr]
  show Rn _ _ (TJ _ _ ([.pk w.heap.size 0]:List Value).toArray .deferred) _ _;rw[DL (N:=11) [.pk w.heap.size 0] Lf.func58 IW rfl];have hG:=aQ [.pk w.heap.size 0] 11 s_;refine Rn.vv hG (λo ho=>(aO (v:= .pk rb 0) pC ho (hG.G 0) ((aG p3 0).trans rfl)).1) λa hF=> ?_
  iterate 3 refine Rn.uc hF λa hF=> ?_
  refine Rn.p rfl (Rn.cond _ (hF.G 4) ?_);refine Rn.vv hF (λo ho=>(aO (v:= .pk rb 0) pC ho (hF.G 0) ((aG p3 0).trans rfl)).1) λa hF=> ?_
  iterate 3 refine Rn.uc hF λa hF=> ?_
  refine Rn.cw hF Lf.func42 (sT h3) λw4 ⟨h4,x4,z4⟩ a hF=> ?_;have o4:=x4.at o_ o3;have r4:=x4.at (UP hne) r3;have f4:=f3.keep x4 λb cs fr hb e=>oH h3 r3 b cs fr hb (.inl e);refine Rn.gr (Rn.rec (d:=10) hF rfl rfl rfl rfl rfl d_ rfl rfl hmode λa hF=> ?_);refine Rn.p rfl (Rn.ends rfl (.inl rfl) ?_);refine Rn.dback (v:= .tuple #[]) (fn:=Tryz.f58) rfl hF.defers Lf.func58 k_ ?_;subst hfr;exact Rn.now ⟨⟨_,[]⟩,_,w1.heap.size,_,_,rfl,rfl,sl2,o4,rfl, .inr ⟨rfl,o_,h4,f4,_,r4⟩,((Ex.of_below (X:=XR cb rb) B2).trans x3 λ_ _ e=>e).trans x4 λb _ e=> .inl e⟩
 obtain⟨j,s,n,c,rfl,hst,h3,⟨room',r3⟩,f3,x3⟩:=hv;have o3:=x3.at (by rintro(e|e)<;>omega) c2;have p3:=x3.at (by rintro(e|e)<;>omega) c1;refine Rn.nn hF (λo ho=>oC ho (hF.G 2) (hF.G 5) o3 rfl) λa hF=> ?_;have x4:=gK (w:=w3) w1.heap.size (eE 0 j s n c) 36;have h4:=h3.ex x4 o_;have r4:=x4.at o_ r3;have p4:=x4.at o_ p3;have o4:=cP (w:=w3) (cs:=eE 0 j s n c) (t:=36) o3;have f4:=f3.keep x4 λb cs fr hb e=>by rw[e,o3]at hb;injection hb with hb;injection hb with _ hb;cases hb
 have X4:=((Ex.of_below (X:=XR cb rb) B2).trans x3 λ_ _ e=>e).trans x4 λb hb e=>o_
 revert h4 r4 p4 o4 f4 X4;generalize et w3 w1.heap.size (eE 0 j s n c) 36=w4;intro h4 r4 p4 o4 f4 X4;refine Rn.p rfl (Rn.ends rfl (.inr ⟨_,rfl⟩) ?_);refine Rn.dcall (g:=58) s_ hF.defers Lf.func58 k_ d_ ?_;have sl2:=hF.slot 2 _ rfl;generalize hfr:({{(base 43).atR a _ with mode:= .returning}with defers:=[]}:Frame)=frD;show Rn _ _ (TJ _ _ ([.pk w.heap.size 0]:List Value).toArray .deferred) _ _;rw[DL (N:=11) [.pk w.heap.size 0] Lf.func58 IW rfl];have hG:=aQ [.pk w.heap.size 0] 11 s_;refine Rn.vv hG (λo ho=>(aO (v:= .pk rb 0) pC ho (hG.G 0) ((aG p4 0).trans rfl)).1) λa hF=> ?_
 iterate 3 refine Rn.uc hF λa hF=> ?_
 refine Rn.p rfl (Rn.cond _ (hF.G 4) ?_);refine Rn.p rfl (Rn.ends rfl (.inl rfl) ?_);refine Rn.dback (v:= .tuple #[]) (fn:=Tryz.f58) rfl hF.defers Lf.func58 k_ ?_;subst hfr;exact Rn.now ⟨⟨_,[]⟩,_,w1.heap.size,_,_,rfl,rfl,sl2,o4,rfl, .inl ⟨j,s,n,c,_,rfl,⟨hst,h4,f4⟩,r4⟩,X4⟩
end
section
variable{y:Operand}
theorem KL{c:Nat}(a:o.op= .binOp .eql 22 x y u)(f:ev x= .slice (some ⟨b,k,none⟩) l c)(d:ev y= .slice none 0 0):(execOp ev o).run lT w= .ok (.value (.bool false)) w:=by
 have e:execOp ev o=(do pure (.value (←(do eqGuard .eql 22 x y (.slice (some ⟨b,k,none⟩) l c) (.slice none 0 0);binOp .eql 22 (.slice (some ⟨b,k,none⟩) l c) (.slice none 0 0))))):=by simp only[execOp,a,f,d]
 have g:(do pure (.value (←(do eqGuard .eql 22 x y (.slice (some ⟨b,k,none⟩) l c) (.slice none 0 0);binOp .eql 22 (.slice (some ⟨b,k,none⟩) l c) (.slice none 0 0)))):Sem Next).run lT w= .ok (.value (.bool false)) w:=k_
 rw[e,g]
theorem O6(a:o.op= .buildSlice 22 0 #[]):(execOp ev o).run lT w= .ok (.value (.sk w.heap.size 0 0)) (w.alloc (.cells #[] 3)):=by
 have e:execOp ev o=(do pure (.value (←Uf 22 0 #[]))):=by simp[execOp,a]
 have b:(do pure (.value (←Uf 22 0 #[])):Sem Next).run lT w= .ok (.value (.sk w.heap.size 0 0)) (w.alloc (.cells #[] 3)):=k_
 rw[e,b]
theorem PR{base gb off:Nat}{L news:List Int}(b:w.ownsRow base 3 1 v n (dT L))(s:w.rangeAt gb off (dT news))(q:news.length=m)(h:ev (.tmp k)=v)(g:ev (.tmp j)= .slice (some ⟨gb,off,none⟩) m m)(z:n+m<=1000)(f:base<=w.heap.size)(p:∀c,v.ownBlock=some c->base<=c)(o:Oper)(d:o.op= .call {callee:= .builtin .append,args:=#[.tmp k, .tmp j],argTypes:=#[22,22]}):
 ∃v' w',(execOp ev o).run lT w= .ok (.value v') w'/\w'.ownsRow base 3 1 v' (n+m) (dT (L++news))/\Below base w w':=by
 obtain⟨i,r,a⟩:=U1.1 (show(lT.info? 3).map (λi=>(i.zero,i.size,i.bytes))=some (some (.i 0),1,8) by kernel_rfl);simp only[Prod.mk.injEq]at a;obtain⟨v',w',y,x,t,_⟩:=run_append_own (P:=aI true tP) w base 22 o.type 3 i (.i 0) 1 8 k_ r a.1 a.2.1 a.2.2 rfl o_ v n (dT L) b ⟨gb,off,none⟩ m m (dT news) (by simp[dT,q]) (λj u l=>by rw[Uu];exact s j u l) (vQ news) (by unfold maxLen;omega) o_ f;refine⟨v',w', ?_,by rw[show dT (L++news)=dT L++dT news from VM ..];exact x,(Xd base w).grown t f p⟩;have e:execOp ev o=(do pure (.value (←VX #[22,22] o.type #[v, .slice (some ⟨gb,off,none⟩) m m]))):=by simp[execOp,d,resolve,h,g,invoke,builtin]
 rw[e];exact nM y
end
theorem NK{base:Nat}{W:List Int}(f:W.length=85)(h:w.ownsRow base 3 1 v 85 (dT W)):∃b cap a,v= .sk b 85 cap/\base<=b/\w.heap[b]?=some (.cells a 3)/\w.rangeAt b 0 (W.map (Value.int .i64)):=by
 rcases h.2 with⟨_,h⟩|⟨b,cap,a,rfl,i,e,n,m,l,g⟩
 ·omega
 refine⟨b,cap,a,rfl,i,e,λj u d=> ?_⟩;rw[TL,aG e];have c:(a.toList.take (85*1))[j]?=some u:=by rw[g];exact d
 have k:j<85:=by have:=(TM.1 d).1;rw[UO,f]at this;omega
 rw[XA,if_pos o_]at c;simpa using c
theorem Pp:Tryz.f44.body=some (.seq (rG Tryz.f44 0) (.seq (.seq (rG Tryz.f44 1) (.cond (.tmp 4) (.seq (rG Tryz.f44 2) .ret) .skip)) (.seq (rG Tryz.f44 3) .ret))):=k_
theorem Pm:Tryz.f31.body=some (.seq (rG Tryz.f31 0) (.seq (rG Tryz.f31 1) .ret)):=k_
theorem OV:Tryz.f32.body=some (.seq (rG Tryz.f32 0) (.seq (rG Tryz.f32 1) .ret)):=k_
theorem M3:Tryz.f17.body=some (.seq (rG Tryz.f17 0) (.seq (rG Tryz.f17 1) .ret)):=k_
theorem M2:Tryz.f18.body=some (.seq (rG Tryz.f18 0) (.seq (rG Tryz.f18 1) .ret)):=k_
section
variable{cb lb:Nat}{fl:Value}{W:List Int}{on:Bool}{sl:Int}{L:ByteArray}
theorem Cb{g off:Nat}(n:W.length=85)(r:w.rangeAt g off (W.map (Value.int .i64))):Calls lT 44 #[.slice (some ⟨g,off,none⟩) 85 85] w λe w'=>∃v,e= .returned v/\∃d cap c,v= .sk d 85 cap/\w.heap.size<=d/\w'.heap[d]?=some (.cells c 3)/\w'.rangeAt d 0 (W.map (Value.int .i64))/\Bw w w':=by
 refine bI (t:=2) Lf.func44 rfl λD=> ?_;rw[aZ (N:=8) [.slice (some ⟨g,off,none⟩) 85 85] Lf.func44 Pp rfl];have b:=aQ [.slice (some ⟨g,off,none⟩) 85 85] 8 s_
 iterate 2 refine Rn.uc b λa b=> ?_
 refine Rn.vv b (λo f=>KL f (b.G 3) rfl) λa b=> ?_;refine Rn.p rfl (Rn.cond _ (b.G 4) ?_);refine Rn.al b (λo f=>O6 f) λl a k y A b=> ?_;have p:l.rangeAt g off (dT W):=λj v q=>d9 k (r j v q);have f:l.ownsRow w.heap.size 3 1 (.sk w.heap.size 0 0) 0 (dT []):=⟨rfl, .inr ⟨w.heap.size,0,_,rfl,TB _,y,TB _,by unfold maxLen;omega,rfl,rfl⟩⟩;refine Rn.uc b λa b=> ?_;refine Rn.ve b (λo h=>PR (m:=85) (news:=W) f p n (b.G 5) (b.G 6) o_ k.size (qz f) o h) λC B ⟨i,z⟩ a b=> ?_;refine Rn.uc b λa b=> ?_;obtain⟨d,cap,c,rfl,x,u,s⟩:=NK (W:=W) n i;exact Rn.fi b ⟨_,rfl,d,cap,c,rfl,x,u,s,k.trans z⟩
theorem Fz(h:dL w cb fl W on sl)(p:lK w fl L):Calls lT 31 #[.pk cb 0] w λe w'=>e= .returned (.s L)/\w'=w:=by
 obtain⟨q,i,d,c,x,rfl,k,f,_,g⟩:=p;obtain⟨u,K,v,r,s⟩:=h;refine bI (t:=2) Lf.func31 rfl λy=> ?_;rw[aZ (N:=8) [.pk cb 0] Lf.func31 Pm rfl];have b:=aQ [.pk cb 0] 8 s_
 iterate 5 refine Rn.uc b λa b=> ?_
 have m:L.data.toList.length=16384:=by rw[V4];exact q
 rw[show Value.sk i 16384 d= .sk i L.data.toList.length d from by rw[m]]at b;refine Rn.vv b (λo l=>wW l (b.G 6) λj n=> ?_) λa b=> ?_
 ·rw[show w.cell? ⟨i,j,none⟩=c[j]? from by simp[U6,f]];exact g j n
 refine Rn.uc b λa b=> ?_;exact Rn.fi b ⟨rfl,rfl⟩
theorem Eg(h:dL w cb fl W on sl):Calls lT 32 #[.pk cb 0] w λe w'=>∃v,e= .returned v/\∃c cap f,v= .sk c 85 cap/\w.heap.size<=c/\w'.heap[c]?=some (.cells f 3)/\w'.rangeAt c 0 (W.map (Value.int .i64))/\Bw w w':=by
 obtain⟨m,K,q,p,l⟩:=h;refine bI (t:=2) Lf.func32 rfl λr=> ?_;rw[aZ (N:=8) [.pk cb 0] Lf.func32 OV rfl];have b:=aQ [.pk cb 0] 8 s_
 iterate 4 refine Rn.uc b λa b=> ?_
 refine Rn.vv b (λo k=>xb k (b.G 5)) λa b=> ?_;have i:w.rangeAt cb 1 (W.map (Value.int .i64)):=λj v d=>by
  have g:j<W.length:=by have:=(TM.1 d).1;rwa [UO]at this
  rw[aG l,RH j g,←d,Up,TX g];rfl
 refine Rn.cl b Lf.func44 (Cb m i) λv n d a b=> ?_;refine Rn.uc b λa b=> ?_;exact Rn.fi b ⟨_,rfl,d⟩
end
section
variable{cb lb:Nat}{fl:Value}{W:List Int}{on:Bool}{sl:Int}{L:ByteArray}
variable(hlb:w.heap[lb]?=some (.cells #[.pk cb 0] 61))
include hlb
theorem BY(h:dL w cb fl W on sl)(d:lK w fl L):Calls lT 17 #[.pk lb 0] w λe w'=>e= .returned (.s L)/\w'=w:=by
 refine bI (t:=2) Lf.func17 rfl λg=> ?_;rw[aZ (N:=8) [.pk lb 0] Lf.func17 M3 rfl];have b:=aQ [.pk lb 0] 8 s_
 iterate 5 refine Rn.uc b λa b=> ?_
 refine Rn.cw b Lf.func31 (Fz h d) λf c a b=> ?_;refine Rn.uc b λa b=> ?_;exact Rn.fi b ⟨rfl,c⟩
theorem AL(h:dL w cb fl W on sl):Calls lT 18 #[.pk lb 0] w λe w'=>∃v,e= .returned v/\∃c cap d,v= .sk c 85 cap/\w.heap.size<=c/\w'.heap[c]?=some (.cells d 3)/\w'.rangeAt c 0 (W.map (Value.int .i64))/\Bw w w':=by
 refine bI (t:=2) Lf.func18 rfl λi=> ?_;rw[aZ (N:=8) [.pk lb 0] Lf.func18 M2 rfl];have b:=aQ [.pk lb 0] 8 s_
 iterate 5 refine Rn.uc b λa b=> ?_
 refine Rn.cl b Lf.func32 (Eg h) λv g f a b=> ?_;refine Rn.uc b λa b=> ?_;exact Rn.fi b ⟨_,rfl,f⟩
end
end L1
section
open Go.Conc Go.RowKit L1
section
variable{r q:Nat}
theorem Dc(j:n=r*1000+q)(g:n≠0)(i:q<1000)(a:fn.results=#[.tmp r, .tmp q])(v:Value)(d:Nat)(tmps:Array Value)(w:World)(h:iV none none n v d tmps w):(results fn tmps).run P w= .ok v w/\∀e∈(results fn tmps).events P w #[],(none:Option Tmp).isSome=true/\∃k,e=⟨.cell ⟨d,k,none⟩,false,false⟩:=by
 unfold iV at h;simp only at h;rw[if_neg g]at h;obtain⟨x,y,c,b,rfl⟩:=h;rw[show n/1000=r by omega]at c;rw[show n%1000=q by omega]at b;constructor
 ·simp[results,a,c,b]
 ·intro e f;simp[results,a]at f
theorem yK(a:fn.results=#[])(v:Value)(b:Nat)(tmps:Array Value)(w:World)(h:iV none none 0 v b tmps w):(results fn tmps).run P w= .ok v w/\∀e∈(results fn tmps).events P w #[],(none:Option Tmp).isSome=true/\∃k,e=⟨.cell ⟨b,k,none⟩,false,false⟩:=by
 unfold iV at h;simp only[if_true]at h;subst h;constructor
 ·simp[results,a]
 ·intro e c;simp[results,a]at c
theorem NP{R:(Nat->Prop)->Value->World->Prop}(s:P.funcs[f]?=some fn)(B:n=r*1000+q)(u:n≠0)(A:q<1000)(p:fn.results=#[.tmp r, .tmp q])(h:Calls P f args w λe w'=>∃x y,e= .returned (.tuple #[x,y])/\x≠undef/\y≠undef/\R (λ_=>True) (.tuple #[x,y]) w'):
 Rn P (λg w'=>nF f none none n R g w'/\∃fr',g=cJ fr' []) (TJ P f args .normal) [] w:=by obtain⟨e,w',v,⟨x,y,rfl,o,m,t⟩,d,a,c⟩:=h [];obtain⟨l,k,j,z,i,b⟩:=c;rw[a,s]at i;cases i;simp[results,p]at b;refine⟨_,w',WO d,⟨a,l,k,rfl,rfl,j,rfl,_,0, ?_,t⟩,v,rfl⟩;unfold iV;simp only;rw[if_neg u,show n/1000=r by omega,show n%1000=q by omega];exact⟨x,y,qN b.1 o,qN b.2 m,rfl⟩
theorem Ko{R:(Nat->Prop)->Value->World->Prop}(h:Calls P f args w λe w'=>e= .returned (.tuple #[])/\R (λ_=>True) (.tuple #[]) w'):
 Rn P (λg w'=>nF f none none 0 R g w'/\∃fr',g=cJ fr' []) (TJ P f args .normal) [] w:=by obtain⟨e,w',l,⟨rfl,k⟩,c,b,a⟩:=h [];obtain⟨j,i,d,m,o,n⟩:=a;refine⟨_,w',WO c,⟨b,j,i,rfl,rfl,d,rfl,_,0, ?_,k⟩,l,rfl⟩;unfold iV;simp
end
section
variable{W:World}{S:Nat->Prop}
def Mm(W w:World)(S D:Nat->Prop)(R:(Nat->Prop)->Value->World->Prop)(K:(Nat->Prop)->World->Value->Prop):Prop:=
 ∀(S' E:Nat->Prop) (w':World) (v:Value),R E v w'->Hd W S' E w'->(∀b,D b->E b)->w.heap.size<=w'.heap.size->(∀x o,Ow W S D w x o->Ow W S' E w' x o)->K S' w' v
theorem Hd.callM{t:Option Tmp}{u:Option (Bool×Tmp)}{R:(Nat->Prop)->Value->World->Prop}{c':Frame}{cs':List Frame}(a:Hd W S D w)(V:Tb W)(M:∀ch,c'.mode≠ .panicking ch)(hf:Tryz.prog.funcs[f]?=some fn)
 (F:∀v J tmps (w:World),iV t u n v J tmps w->(results fn tmps).run tP w= .ok v w/\∀e∈(results fn tmps).events tP w #[],t.isSome=true/\∃k,e=⟨.cell ⟨J,k,none⟩,false,false⟩) (m:∀v J tmps (w:World),iV t u n v J tmps w->(results fn tmps).run lT w= .ok v w) (hR:y6 D R)
 (ha:∀y,aS 2 D id y->args=args.map (aD y))
 (hC:∀wL:World,wL.rangeAt 0 0 (aH iJ)->2<=wL.heap.size->(∀b,D b->wL.heap[b]?=w.heap[b]?)->Rn lT (λg w'=>nF f t u n R g w'/\∃fr',g=cJ fr' []) (Frame.enter lT f args .normal) [] wL)
 (s:Mm W w S D R λI w' v=>aT tP Post I (cJ (c'.finish v) cs') w') (q:fn.body.elim false (oa f)=true:=by kernel_rfl) (K:dm f=0\/dm f=3:=by exact .inl rfl) (L:f≠105:=by decide) (i:oO f=false:=by kernel_rfl):
 aT tP Post S (bC tP f args (c'::cs')) w:=by
 obtain⟨c,N,q⟩:=sK q;have hz:=a.old.size;have h2:=a.two;have Z:∀r,r<W.heap.size->¬S r:=λr h1 T=>by have:=a.shun r T;omega
 refine II (t:=t) (u:=u) (n:=n) (Q:=R) (D0:=D) (KS:=iJ) hf N q F m hR M K L i ha o_ (λb N=> ?_) (λr l=>by have:=a.shun r l;omega) (λj v hj=> ?_) dn ?_ hC λI E w' v hq hE P G H a0 C d p=> ?_
 ·obtain⟨q0,B,A⟩:=a.own b N;exact⟨o_,B,A⟩
 ·have:=V.rng j v hj;unfold World.cell? at this⊢;rw[a.old.block _ (show 0<W.heap.size by omega)];exact this
 ·obtain⟨cl,e,z,B,A⟩:=V.obj;exact⟨cl,e,z,B,(a.old.block 0 o_).trans A⟩
 ·have Y:∀r,r<w.heap.size->¬S r->¬I r:=λr h1 T h4=>by
   rcases H r h4 with X|X
   ·omega
   ·exact T X
  have O:Hd W I E w':=⟨h2,⟨p.1.trans a.old.os,p.2.2.trans a.old.tape,p.2.1.trans a.old.output,Nat.le_trans hz C,λr l=>(d r o_ (λh=>by have:=(a.own r h).1;omega) (Z r l)).trans (a.old.block r l)⟩,λr l=>(H r l).elim (λh=>o_) (a.shun r),λr l=> ?_⟩
  ·refine s I E w' v hq O P C λx o i=> ?_;have U:=aK i.lies;exact⟨i.new,Y x U i.ours,λh=>(G x h).elim i.out λh=>o_,(d x U i.out i.ours).trans i.lies⟩
  ·obtain⟨_,B,A⟩:=hE r l;refine⟨?_,B,A⟩;rcases G r l with h|h
   ·exact(a.own r h).1
   ·omega
theorem AY{D D':Nat->Prop}(h:∀b,D b->D' b){o:Obj}(hs:nG D o):nG D' o:=⟨hs.1,λc a=>hs.2 c ⟨a.1,λb d=>a.2 b (h b d)⟩⟩
theorem Hd.lend(a:Hd W S D w){x:Nat}{o:Obj}(c:Ow W S D w x o)(hs:nG (λb=>D b\/b=x) o):Hd W S (λb=>D b\/b=x) w:=⟨a.two,a.old,a.shun,λr d=>by
 rcases d with d|rfl
 ·obtain⟨h,g,o,f,e⟩:=a.own r d;exact⟨h,g,o,f,AY (λ_=> .inl) e⟩
 ·exact⟨c.new,c.ours,o,c.lies,hs⟩⟩
theorem Ow.lend{x y:Nat}{o:Obj}(h:Ow W S D w y o)(a:y≠x):Ow W S (λb=>D b\/b=x) w y o:=⟨h.new,h.ours,λc=>c.elim h.out a,h.lies⟩
theorem zy(n:Hd W S D w){f e:World}{k:Nat->Prop}(c:cI 2 0 k ρ f e)(d:∀b,D b->k b/\ρ b=b)(a:D b)(h:f.heap[b]?=w.heap[b]?):e.heap[b]?=w.heap[b]?:=by obtain⟨_,_,o,j,m⟩:=n.own b a;rw[j]at h;obtain⟨p,i,_,l⟩:=c.obj b (d b a).1;rw[h]at i;cases i;have g:=l ρ c.self;rw[(d b a).2]at g;rw[j,g,m.2 ρ ⟨⟨c.inj,c.glob⟩,λb a=>(d b a).2⟩]
theorem OT{k j:World}{i:Nat->Prop}{f b d:Nat}{V:List Int}{on:Bool}{sl:Int}(c:cI 2 0 i ρ k j)(p:i f)(h:dL k f (.sk b 16384 d) V on sl):i b/\dL j (ρ f) (.sk (ρ b) 16384 d) V on sl:=by
 obtain⟨m,K,q,n,h⟩:=h;obtain⟨o,l,_,g⟩:=c.obj f p;rw[h]at l;cases l;have e:∀a:Nat->Nat,(mn (.sk b 16384 d) V K on sl).map (aD a)=mn (.sk (a b) 16384 d) V K on sl:=λa=>by simp[mn,aD,aX,Function.comp_def]
 refine⟨c.dom λa r=> ?_,m,K,q,n, ?_⟩
 ·have:=(g a r).symm.trans (g ρ c.self);simp only[d7,e,Option.some.injEq,Xm.injEq,and_true]at this;have:=congrArg (·[0]?) this;simp only[TA,Option.some.injEq,aa4.injEq,Addr.mk.injEq,and_true]at this;exact this
 ·have:=g ρ c.self;simp only[d7,e]at this;exact this
theorem OF{e d:World}{i:Nat->Prop}{a b:Nat}{L:ByteArray}(g:cI 2 0 i ρ e d)(m:i a)(h:lK e (.sk a 16384 b) L):lK d (.sk (ρ a) 16384 b) L:=by obtain⟨t,v,w,c,u,s,r,q,p,n⟩:=h;cases s;obtain⟨o,f,_,k⟩:=g.obj a m;rw[q]at f;cases f;refine⟨t,ρ a,b,_,u,rfl,r,k ρ g.self,p,λj l=> ?_⟩;rw[TQ,n j l];simp[aD]
end
structure Kp (D:Nat->Prop) (lb cb fb cp:Nat) (V:List Int) (L:ByteArray) (on:Bool) (sl:Int) (w:World):Prop where
 dl:D lb
 dc:D cb
 df:D fb
 lin:w.heap[lb]?=some (.cells #[.pk cb 0] 61)
 ch:dL w cb (.sk fb 16384 cp) V on sl
 fls:lK w (.sk fb 16384 cp) L
section
variable{W:World}{S:Nat->Prop}{lb cb fb cp:Nat}{V:List Int}{L:ByteArray}{on:Bool}{sl:Int}
theorem Kp.any(h:Kp D lb cb fb cp V L on sl w):Kp (λ_=>True) lb cb fb cp V L on sl w:=⟨trivial,trivial,trivial,h.lin,h.ch,h.fls⟩
theorem I9{j i:World}{d E:Nat->Prop}(a:cI 2 0 d ρ j i)(l:d lb)(h:Kp E lb cb fb cp V L on sl j):Kp (λr=>∃b,d b/\ρ b=r) (ρ lb) (ρ cb) (ρ fb) cp V L on sl i:=by
 obtain⟨o,k,_,f⟩:=a.obj lb l;rw[h.lin]at k;cases k;have e:∀c:Nat->Nat,(#[Value.pk cb 0]:Array Value).map (aD c)=#[.pk (c cb) 0]:=λc=>by simp[aD,aX]
 have n:d cb:=a.dom λc p=>by have:=(f c p).symm.trans (f ρ a.self);simp only[d7,e,Option.some.injEq,Xm.injEq,and_true]at this;have:=congrArg (·[0]?) this;simpa using this
 obtain⟨m,g⟩:=OT a n h.ch;have:=f ρ a.self;simp only[d7,e]at this;exact⟨⟨lb,l,rfl⟩,⟨cb,n,rfl⟩,⟨fb,m,rfl⟩,this,g,OF a m h.fls⟩
theorem Kp.fix{e d:World}{c E:Nat->Prop}(g:cI 2 0 c ρ e d)(a:∀b,D b->c b/\ρ b=b)(f:D lb)(i:D cb)(df:D fb)(h:Kp E lb cb fb cp V L on sl e):Kp (λr=>∃b,c b/\ρ b=r) lb cb fb cp V L on sl d:=by
 have:=I9 g (a lb f).1 h
 rwa [(a lb f).2,(a cb i).2,(a fb df).2]at this
theorem Kp.same(h:Kp D lb cb fb cp V L on sl w)(hs:∀b,D b->w'.heap[b]?=w.heap[b]?):Kp D lb cb fb cp V L on sl w':=by obtain⟨c,K,f,d,e⟩:=h.ch;obtain⟨l,n,o,a,m,k,j,i,g⟩:=h.fls;cases k;exact⟨h.dl,h.dc,h.df,(hs lb h.dl).trans h.lin,⟨c,K,f,d,(hs cb h.dc).trans e⟩,l,fb,cp,a,m,rfl,j,(hs fb h.df).trans i,g⟩
theorem Kp.ours(h:Kp D lb cb fb cp V L on sl w){E:Nat->Prop}(a:∀b,D b->E b):Kp E lb cb fb cp V L on sl w:=⟨a _ h.dl,a _ h.dc,a _ h.df,h.lin,h.ch,h.fls⟩
theorem Kp.ne(h:Kp D lb cb fb cp V L on sl w):lb≠cb:=by obtain⟨_,K,_,_,a⟩:=h.ch;rintro rfl;rw[h.lin]at a;injection a with a;injection a with _ a;cases a
theorem Lz:Mp (λE v w=>∃a d b c,v= .tuple #[.pk a 0, .i 0]/\Kp E a d b c V L false 0 w):=by
 refine⟨λ_ _ _ ⟨a,d,b,c,h,g⟩=>⟨a,d,b,c,h,g.any⟩,λD e w m v i f ⟨a,d,b,c,h,g⟩=> ?_⟩;have k:D a:=i.dom λj l=>by have:=f j l;rw[h]at this;simp[aD,aX]at this;exact this
 exact⟨e a,e d,e b,c,by rw[h];simp[aD,aX],I9 i k g⟩
variable{c':Frame}{cs':List Frame}
theorem Hd.newL{y:ByteArray}{a cap:Nat}(M:L.size=16384)(p:y.size=16)(K:gW V)(I:w.rangeAt a 0 (V.map (Value.int .i64)))(A:D a)(C:Hd W S D w)(B:Tb W)(s:∀Z,c'.mode≠ .panicking Z)(b:Nx W w S D (λE v w=>∃i x k l,v= .tuple #[.pk i 0, .i 0]/\Kp E i x k l V L false 0 w) λS' w' v=>aT tP Post S' (cJ (c'.finish v) cs') w'):aT tP Post S (bC tP 29 #[.s L, .sk a 85 cap, .s y] (c'::cs')) w:=by
 obtain⟨c,J,o⟩:=sK (f:=29) (fn:=Tryz.f29) k_;refine C.call (t:=none) (u:=none) (n:=6007) Tryz.func29 J o (Dc (r:=6) (q:=7) rfl d_ d_ rfl) (λv bk g w h=>(Dc (r:=6) (q:=7) rfl d_ d_ rfl v bk g w h).1) Lz s rfl d_ k_ (λF h=>by have:F a=a:=h.2 a A;simp[aD,aX,this]) B.rng dn B.obj (λG k1 k2 z=>NP Lf.func29 rfl d_ d_ rfl ?_) b
 have m:G.rangeAt a 0 (V.map (Value.int .i64)):=λj v H=>by have:=I j v H;unfold U6 at this⊢;rw[z a A];exact this
 refine(HA (cap:=cap) M p K m).mono λe w' ⟨v,T,i,x,fl,R,Q,P,O,_,N⟩=> ?_;obtain⟨X,k,l,d,Y,rfl,U⟩:=O;subst R;exact⟨_,_,T,fZ (λ_ e=>by cases e),fZ (λ_ e=>by cases e),⟨i,x,k,l,rfl,trivial,trivial,trivial,Q,P,X,k,l,d,Y,rfl,U⟩,C.keep z N⟩
theorem Hd.unl(j:Kp D lb cb fb cp V L on sl w)(r:Hd W S D w)(z:Tb W)(p:∀C,c'.mode≠ .panicking C)(c:Mm W w S D (λE v w'=>v= .tuple #[]/\Kp E lb cb fb cp V L false 0 w'/\∀b,D b->b≠cb->w'.heap[b]?=w.heap[b]?) λG w' v=>aT tP Post G (cJ (c'.finish v) cs') w'):aT tP Post S (bC tP 42 #[.pk cb 0] (c'::cs')) w:=by
 refine r.callM (t:=none) (u:=none) (n:=0) z p Tryz.func42 (yK rfl) (λv F g w h=>(yK rfl v F g w h).1) ⟨λE v w ⟨l,k,f⟩=>⟨l,k.any,f⟩,λO s J I v x y _ ⟨l,k,f⟩=>⟨by rw[l];simp[aD],k.fix x y j.dl j.dc j.df,λb a d=>zy r x y a (f b a d)⟩⟩ (λs h=>by have:s cb=cb:=h.2 cb j.dc;simp[aD,aX,this]) (λH M K m=>Ko ?_) c
 have i:=j.same m;refine(sT i.ch).mono λe w' ⟨l,k,f,N⟩=>⟨l,rfl,⟨trivial,trivial,trivial,f.at ?_ i.lin,k,i.fls.keep f λb B A a=>BZ i.ch.2.choose_spec.2.2 d_ b B A a⟩,λb a d=>(f.block b ?_ d).trans (m b a)⟩
 ·exact i.ne
 ·obtain⟨_,_,o,q,_⟩:=r.own b a;exact aK ((m b a).trans q)
theorem CQ{e d:World}{k:Nat->Prop}{a:Nat}{room:Int}{j:Bool}(g:cI 2 0 k ρ e d)(c:∀b,D b->k b/\ρ b=b)(m:D cb)(i:D a)(h:e.heap[a]?=some (.cells (iZ cb room j) 75)):d.heap[a]?=some (.cells (iZ cb room j) 75):=by obtain⟨o,f,_,l⟩:=g.obj a (c a i).1;rw[h]at f;cases f;have:=l ρ g.self;rw[(c a i).2]at this;rw[this];simp[d7,iZ,aD,aX,(c cb m).2]
theorem sF:∀w:World,(isAgg 36).run tP w= .ok true w/\(isAgg 36).events tP w #[]=#[]:=λw=>⟨k_,k_⟩
theorem Hp:∀w:World,(isAgg 36).run lT w= .ok true w/\(isAgg 36).events lT w #[]=#[]:=λw=>⟨k_,k_⟩
def RS(room:Int)(D:Nat->Prop)(lb cb fb cp rb:Nat)(V:List Int)(L:ByteArray)(w:World)(E:Nat->Prop)(v:Value)(w':World):Prop:=
 ((∃j s n c room',v= .agg (L1.eE 0 j s n c)/\lJ iJ V L j s n c/\Kp E lb cb fb cp V L j s w'/\w'.heap[rb]?=some (.cells (iZ cb room' false) 75))\/(v= .agg (L1.eE 0 false 0 0 0)/\room<=3/\Kp E lb cb fb cp V L false 0 w'/\∃room',w'.heap[rb]?=some (.cells (iZ cb room' true) 75)))/\∀b,D b->b≠cb->b≠rb->w'.heap[b]?=w.heap[b]?
theorem Hd.doR{f:Nat}{room:Int}(hV:gW V)(i:Kp D lb cb fb cp V L false 0 w)(H:D f)(J:w.heap[f]?=some (.cells (iZ cb room false) 75))(K:room<9223372036854775808)(y:Hd W S D w)(hT:Tb W)(O:∀ch,c'.mode≠ .panicking ch)(r:Mm W w S D (RS room D lb cb fb cp f V L w) λS' w' v=>aT tP Post S' (cJ (c'.finish v) cs') w'):aT tP Post S (bC tP 43 #[.pk f 0] (c'::cs')) w:=by
 have P:y6 D (RS room D lb cb fb cp f V L w):=by
  refine⟨λE v w h=>⟨?_,h.2⟩,λD1 X w1 w2 v B C _ h=>⟨?_,λb A p l=>zy y B C A (h.2 b A p l)⟩⟩
  ·rcases h.1 with⟨j,s,n,c,d,p,l,m,F⟩|⟨p,M,l,m⟩
   ·exact .inl ⟨j,s,n,c,d,p,l,m.any,F⟩
   ·exact .inr ⟨p,M,l.any,m⟩
  ·rcases h.1 with⟨j,s,n,c,d,p,l,m,F⟩|⟨p,M,l,d,m⟩
   ·exact .inl ⟨j,s,n,c,d,by rw[p];simp[aD,L1.eE],l,m.fix B C i.dl i.dc i.df,CQ B C i.dc H F⟩
   ·exact .inr ⟨by rw[p];simp[aD,L1.eE],M,l.fix B C i.dl i.dc i.df,d,CQ B C i.dc H m⟩
 refine y.callM (t:=some 2) (u:=none) (n:=5) hT O Tryz.func43 (kY (ty:=36) sF (λw=>k_) rfl) (λv U z w h=>(kY (ty:=36) Hp (λw=>k_) rfl v U z w h).1) P (λX h=>by have:X f=f:=h.2 f H;simp[aD,aX,this]) (λwL k1 k2 I=> ?_) r (K:= .inr rfl)
 have x:=i.same I;have A:=(I f H).trans J;have l:=y.two;have a1:=(y.own cb i.dc).1;have a0:=(y.own f H).1;obtain⟨g',w',s,a,k,U,g,Z,m,F,h5,h6,h7,h8,Q⟩:=RE KW dn x.ch hV A K x.fls (by rintro(e|e)<;>omega) k1 [];have Y:¬XR cb f lb:=by
  rintro(e|e)
  ·exact x.ne e
  ·have:=x.lin;rw[e,A]at this;injection this with this;injection this with _ this;cases this
 have kk:∀b,D b->b≠cb->b≠f->w'.heap[b]?=w.heap[b]?:=λb N e1 e2=>by obtain⟨_,_,o,q,_⟩:=y.own b N;exact(Q.block b (aK ((I b N).trans q)) λe=>e.elim e1 e2).trans (I b N)
 subst m;refine⟨_,w',s,⟨rfl,rfl,F,rfl,rfl,rfl,rfl, .agg g,U,⟨g,Z,h5,h6,h7,rfl⟩, ?_,kk⟩,_,rfl⟩;rcases h8 with⟨j,s,n,c,d,T,G,R⟩|⟨T,gr,G,R,g4⟩
 ·exact .inl ⟨j,s,n,c,d,T,G.step,⟨trivial,trivial,trivial,Q.at Y x.lin,G.ch,G.fls⟩,R⟩
 ·exact .inr ⟨T,gr,⟨trivial,trivial,trivial,Q.at Y x.lin,G,R⟩,g4⟩
end
section
variable{y:Operand}
theorem Gf{b:Nat}{room:Int}(a:o.op= .build 75 #[(0,x),(1,y)])(d:ev x= .pk b 0)(c:ev y= .i room):Yl tP ev o w (.agg (iZ b room false)) #[]:=by
 have e:execOp ev o=(do pure (.value (←Uj 75 #[(0, .pt b),(1, .i room)]))):=by simp[execOp,a,d,c]
 unfold Yl;rw[e];constructor<;>kernel_rfl
theorem QA(j:Nat)(d:j<3)(a:o.op= .fieldAddr 75 x j)(c:ev x= .pk b 0):Yl tP ev o w (.pk b j) #[]:=by
 have e:execOp ev o=(do pure (.value (←TS 75 (.pk b 0) j))):=by simp only[execOp,a,c]
 unfold Yl;rw[e];rcases(o_:j=0\/j=1\/j=2)with rfl|rfl|rfl<;>constructor<;>kernel_rfl
theorem QC(a:o.op= .fieldAddr 61 x 0)(c:ev x= .pk b 0):Yl tP ev o w (.pk b 0) #[]:=by
 have e:execOp ev o=(do pure (.value (←TS 61 (.pk b 0) 0))):=by simp only[execOp,a,c]
 unfold Yl;rw[e];constructor<;>kernel_rfl
theorem Na(a:o.op= .nilCheck x)(c:ev x= .pk b 0):Yl tP ev o w (.pk b 0) #[]:=by constructor<;>simp[execOp,a,c]
theorem KY:xZ tP 59:=λw=>⟨k_,k_⟩
theorem MU(a:o.op= .alloc 75):(execOp ev o).run tP w= .ok (.value (.pk w.heap.size 0)) (w.alloc (.cells #[.pointer none, .i 0, .bool false] 75))/\(execOp ev o).events tP w #[]=#[]:=by
 have e:execOp ev o=(do pure (.value (←Uo 75 true (.tuple #[])))):=by simp only[execOp,a]
 rw[e];constructor<;>kernel_rfl
theorem GB{d:Nat}{room:Int}{old:Array Value}{c:TypeId}(a:o.op= .store 75 x y)(g:ev x= .pk b 0)(f:ev y= .agg (iZ d room false))(h:w.heap[b]?=some (.cells old c))(i:old.size=3):
 (execOp ev o).run tP w= .ok .skip (et w b (iZ d room false) c)/\∀e∈(execOp ev o).events tP w #[],∃k,e=⟨.cell ⟨b,k,none⟩,true,false⟩:=AZ (λw=>⟨k_,k_⟩) a g f h k_ i (by simp[iZ,Va])
theorem tR{r s n:Int}{j:Bool}{g:TypeId}(a:o.op= .load 36 x)(d:ev x= .pk b 0)(h:w.heap[b]?=some (.cells (L1.eE r j s n c) g)):(execOp ev o).run tP w= .ok (.value (.agg (L1.eE r j s n c))) w/\∀e∈(execOp ev o).events tP w #[],∃k,e=⟨.cell ⟨b,k,none⟩,false,false⟩:=by
 obtain⟨l,i⟩:=xn (P:=tP) (ty:=36) (n:=5) k_ k_ k_ h rfl;constructor
 ·simp[execOp,a,d,TN,V2,l]
 ·intro e f;simp[execOp,a,d,TN,V2]at f;exact i e f
end
structure Bt (W w0:World) (S0 D0:Nat->Prop) (lb cb fb cp:Nat) (V:List Int) (L:ByteArray) (on:Bool) (sl:Int) (S D:Nat->Prop) (w:World):Prop where
 hd:Hd W S D w
 low:∀b,D0 b->b<w0.heap.size
 sub:∀b,D0 b->D b
 sz:w0.heap.size<=w.heap.size
 ow:∀x o,Ow W S0 D0 w0 x o->Ow W S D w x o
 kp:Kp D lb cb fb cp V L on sl w
 keep:∀b,D0 b->b≠cb->w.heap[b]?=w0.heap[b]?
section
variable{W:World}{S0 D0 S:Nat->Prop}{lb cb fb cp:Nat}{V:List Int}{L:ByteArray}{on:Bool}{sl:Int}{x:Nat}{o:Obj}
theorem Bt.first(a:Hd W S0 D0 w0)(d:Kp D0 lb cb fb cp V L on sl w0):Bt W w0 S0 D0 lb cb fb cp V L on sl S0 D0 w0:=⟨a,λb c=>let ⟨_,_,_,q,_⟩:=a.own b c;aK q,λ_ h=>h,TB _,λ_ _ h=>h,d,λ_ _ _=>rfl⟩
theorem Bt.made(h:Bt W w0 S0 D0 lb cb fb cp V L on sl S D w)(k:∀r,S r->r<w.heap.size)(d:Bw w w')(i:w'.heap[w.heap.size]?=some o):Bt W w0 S0 D0 lb cb fb cp V L on sl S D w'/\Ow W S D w' w.heap.size o/\∀y p,Ow W S D w y p->Ow W S D w' y p/\y≠w.heap.size:=by
 obtain⟨n,m,g⟩:=h.hd.made k d i;have a:∀b,D b->w'.heap[b]?=w.heap[b]?:=λb j=>by obtain⟨_,_,_,q,_⟩:=h.hd.own b j;exact d.block b (aK q)
 exact⟨⟨n,h.low,h.sub,TW h.sz d.size,λy p c=>g y p (h.ow y p c),h.kp.same a,λb f l=>(a b (h.sub b f)).trans (h.keep b f l)⟩,m,λy p c=>⟨g y p c,λe=>by have:=aK c.lies;omega⟩⟩
theorem Bt.set(h:Bt W w0 S0 D0 lb cb fb cp V L on sl S D w)(d:Ow W S D w x o)(m:w0.heap.size<=x)(cs:Array Value)(t:TypeId):Bt W w0 S0 D0 lb cb fb cp V L on sl S D (et w x cs t)/\Ow W S D (et w x cs t) x (.cells cs t)/\∀y p,y≠x->Ow W S D w y p->Ow W S D (et w x cs t) y p:=by obtain⟨l,k,g⟩:=h.hd.set d cs t;have a:∀b,D b->(et w x cs t).heap[b]?=w.heap[b]?:=λb i=>bX (by rintro rfl;exact d.out i);exact⟨⟨l,h.low,h.sub,by rw[fY];exact h.sz,λy p c=>g y p (λe=>by have:=aK c.lies;omega) (h.ow y p c),h.kp.same a,λb f j=>(a b (h.sub b f)).trans (h.keep b f j)⟩,k,g⟩
theorem Bt.lend(h:Bt W w0 S0 D0 lb cb fb cp V L on sl S D w)(c:Ow W S D w x o)(f:w0.heap.size<=x)(hs:nG (λb=>D b\/b=x) o):Bt W w0 S0 D0 lb cb fb cp V L on sl S (λb=>D b\/b=x) w:=
 ⟨h.hd.lend c hs,h.low,λb d=> .inl (h.sub b d),h.sz,λy p a=>(h.ow y p a).lend λe=>by have:=aK a.lies;omega,h.kp.ours λ_=> .inl,h.keep⟩
theorem GI{room:Int}{d:Bool}(b:D cb):nG D (.cells (iZ cb room d) 75):=⟨rfl,λa c=>by have:a cb=cb:=c.2 cb b;simp[d7,iZ,aD,aX,this]⟩
end
def SY(f:Func):Code:= .seq (rG f 3) (.seq (.cond (.tmp 16) .skip (.exit 0)) (.seq (.block 1 (.seq (rG f 4) (.seq (rG f 5) (.seq (rG f 6) (.seq (rG f 7) (.cond (.tmp 26) (.seq (rG f 8) (.seq (rG f 9) .ret)) .skip)))))) (rG f 10)))
def I7(f:Func):Code:= .seq (rG f 11) (.seq (rG f 12) (.seq (rG f 13) (.seq (rG f 14) .ret)))
theorem Pr:Tryz.f30.body=some (.seq (rG Tryz.f30 0) (.seq (rG Tryz.f30 1) (.seq (.seq (rG Tryz.f30 2) (.block 0 (.loop (SY Tryz.f30)))) (I7 Tryz.f30)))):=k_
def AG(D0:Nat->Prop)(lb cb fb cp:Nat)(V:List Int)(L:ByteArray)(N:Nat)(w0:World)(E:Nat->Prop)(v:Value)(w':World):Prop:=
 ∃(r:Nat) (j:Bool) (s n c:Int),v= .agg (L1.eE r j s n c)/\(1<=r/\r<=N+1)/\lJ iJ V L j s n c/\Kp E lb cb fb cp V L j s w'/\∀b,D0 b->b≠cb->w'.heap[b]?=w0.heap[b]?
section
variable{W:World}{S0 D0 S:Nat->Prop}{lb cb fb cp:Nat}{V:List Int}{L:ByteArray}{c':Frame}{cs':List Frame}
theorem IT{h i r:Nat}{j:Bool}{s n:Int}{k:List Item}(u:1<=r/\r<=N+1)(m:lJ iJ V L j s n c)(g:Bt W w0 S0 D0 lb cb fb cp V L j s S D w)(l:∃old,Ow W S D w h (.cells old 36)/\old.size=5)(B:w0.heap.size<=h)(y:a.defers=[])(z:a.tmps[4]?=some (.pk h 0))
 (o:w.heap[i]?=some (.cells (L1.eE r j s n c) 36)) (e:i=h)
 (f:Mm W w0 S0 D0 (AG D0 lb cb fb cp V L N w0) λA w' v=>aT tP Post A (cJ (c'.finish v) cs') w'):
 aT tP Post S (cJ {(base 30).atR a k with mode:= .returning} (c'::cs')) w:=by subst e;obtain⟨old,l,_⟩:=l;refine aT.leaveE (b:=base 30) (.agg (L1.eE r j s n c)) rfl y Tryz.func30 (λd=> ?_) (f S D w _ ⟨r,j,s,n,c,rfl,u,m,g.kp,g.keep⟩ g.hd g.sub g.sz g.ow);obtain⟨q,p⟩:=kY (P:=tP) (fn:=Tryz.f30) (ty:=36) (t:=4) (n:=5) sF (λw=>k_) rfl (.agg (L1.eE r j s n c)) i a.tmps (w.at d) ⟨_,_,z,o,rfl,rfl⟩;refine⟨q,λe x=> ?_⟩;obtain⟨_,k,rfl⟩:=p e x;exact kb (aK o) l.ours
theorem IS{rb x4:Nat}{room:Int}(R:gW V)(T:Tb W)(r:room<9223372036854775808)(K:Bt W w0 S0 D0 lb cb fb cp V L false 0 S D w)(G:Ow W S D w rb (.cells (iZ cb room false) 75))(N:w0.heap.size<=rb)(o:∃old,Ow W S D w x4 (.cells old 36)/\old.size=5)(l:x4≠rb){F:Frame}{m:List Frame}(t:∀Y,F.mode≠ .panicking Y)
 (H:∀(f E:Nat->Prop) (w':World) (v:Value) (C j:Bool) (s n c a:Int),v= .agg (L1.eE 0 j s n c)->((C=false/\lJ iJ V L j s n c)\/(C=true/\room<=3/\j=false/\s=0))->Bt W w0 S0 D0 lb cb fb cp V L j s f E w'->w'.heap[rb]?=some (.cells (iZ cb a C) 75)->¬f rb->(∃old,Ow W f E w' x4 (.cells old 36)/\old.size=5)->w.heap.size<=w'.heap.size->aT tP Post f (cJ (F.finish v) m) w'):
 aT tP Post S (bC tP 43 #[.pk rb 0] (F::m)) w:=by
 have d:=K.lend G N (GI (.inl K.kp.dc));refine Hd.doR R d.kp (.inr rfl) G.lies r d.hd T t λf E w' v u I J q x=> ?_;obtain⟨old,o,M⟩:=o;obtain⟨u,Q⟩:=u;have g:∀{j:Bool} {s:Int},Kp E lb cb fb cp V L j s w'->Bt W w0 S0 D0 lb cb fb cp V L j s f E w':=λ{j s} U=>⟨I,d.low,λb i=>J b (d.sub b i),TW d.sz q,λy p O=>x y p (d.ow y p O),U,λb i h=>(Q b (d.sub b i) h (λe=>by have:=d.low b i;omega)).trans (d.keep b i h)⟩;have k:=(I.own rb (J rb (.inr rfl))).2.1;rcases u with⟨j,s,n,c,a,B,A,z,X⟩|⟨B,P,A,a,z⟩
 ·exact H f E w' v false j s n c a B (.inl ⟨rfl,A⟩) (g z) X k ⟨old,x x4 _ (o.lend l),M⟩ q
 ·exact H f E w' v true false 0 0 0 a B (.inr ⟨rfl,P,rfl,rfl⟩) (g A) z k ⟨old,x x4 _ (o.lend l),M⟩ q
end
section
variable{W:World}{S0 D0:Nat->Prop}{lb cb fb cp:Nat}{V:List Int}{L:ByteArray}{c':Frame}{cs':List Frame}{G:List Int}{gv:Value}{x4:Nat}
theorem LY(hV:gW V)(hT:Tb W)(a0:G.length<=140737488351232)(z:∃p cap,gv= .slice p G.length cap)(N:w0.heap.size<=x4)(k:Mm W w0 S0 D0 (AG D0 lb cb fb cp V L G.length w0) λS' w' v=>aT tP Post S' (cJ (c'.finish v) cs') w'){S:Nat->Prop}(P:Bt W w0 S0 D0 lb cb fb cp V L false 0 S D w)(f:∃old,Ow W S D w x4 (.cells old 36)/\old.size=5)
 (b:aW [(0, .pt cb),(1,gv),(4, .pt x4)] 40 [] a):aT tP Post S (cJ ((base 30).atR a [.code (I7 Tryz.f30)]) (c'::cs')) w:=by
 obtain⟨pg,Q,rfl⟩:=z;refine aT.uu b λa b=> ?_;refine aT.vv b (λo c g=>Gf (room:=9223372036854775807) g (b.G 32) rfl) (λe A=>by simp at A) λa b=> ?_;refine aT.ab b (λo w g=>MU g) λF U a b1 c1 b=> ?_;obtain⟨B1,i,t1⟩:=P.made F b1 c1;have O:=P.sz;refine aT.sp b i.lies i.ours (λo c g=>GB g (b.G 9) (b.G 33) i.lies rfl) λa b=> ?_;obtain⟨M,i,t2⟩:=B1.set i O (iZ cb 9223372036854775807 false) 75;obtain⟨old,f,H⟩:=f;obtain⟨f,q⟩:=t1 _ _ f;have f:=t2 _ _ q f;revert M i f;generalize et U w.heap.size (iZ cb 9223372036854775807 false) 75=w2;intro M i f;refine aT.cc b Tryz.func43 λc2 C r=>IS hV hT d_ M i O ⟨old,f,H⟩ q C λS3 D3 t v ct j s n c x hv B K r3 s3 f z3=>r S3 t v λa b=> ?_;subst hv;obtain⟨rfl,y⟩:ct=false/\lJ iJ V L j s n c:=by
  rcases B with h|⟨_,h,_⟩
  ·exact h
  ·omega
 refine aT.ab b (λo w g=>mr g) λE T a b4 c4 b=> ?_;obtain⟨B4,d,Z⟩:=K.made E b4 c4;obtain⟨old,f,H⟩:=f;obtain⟨f,l⟩:=Z _ _ f;refine aT.sp b d.lies d.ours (λo c g=>iB g (b.G 10) (b.G 34) d.lies rfl) λa b=> ?_;obtain⟨J,d,Y⟩:=B4.set d K.sz (L1.eE 0 j s n c) 36;have f:=Y _ _ l f;have u:=K.sz;revert J d f;generalize et T t.heap.size (L1.eE 0 j s n c) 36=R;intro J d f
 iterate 2 refine aT.uu b λa b=> ?_
 refine aT.vv b (λo c g=>iY (m:=G.length) (n:=1) g (b.G 36) rfl o_) (λe A=>by simp at A) λa b=> ?_;rw[show((G.length:Int)+1)=((G.length+1:Nat):Int)from o_]at b;refine aT.uu b λa b=> ?_;refine aT.sp b d.lies d.ours (λo c g=>B0 rfl rfl k_ g (b.G 38) (b.G 37) d.lies (d_:0<5)) λa b=> ?_;obtain⟨I,d,X⟩:=J.set d u (L1.eE ((G.length+1:Nat):Int) j s n c) 36;have f:=X _ _ l f;rw[show(L1.eE 0 j s n c).setIfInBounds 0 (.i ((G.length+1:Nat):Int))=L1.eE ((G.length+1:Nat):Int) j s n c from rfl];revert I d f;generalize et R t.heap.size (L1.eE ((G.length+1:Nat):Int) j s n c) 36=w6;intro I d f;refine aT.lv b d.lies d.ours (λo c g=>tR g (b.G 10) d.lies) λa b=> ?_;refine aT.sp b f.lies f.ours (λo c g=>iB g (b.G 4) (b.G 39) f.lies H) λa b=> ?_;obtain⟨B7,f,_⟩:=I.set f N (L1.eE ((G.length+1:Nat):Int) j s n c) 36;exact aT.plain rfl (aT.ends rfl (.inr ⟨_,rfl⟩) (IT (i:=x4) ⟨o_,TB _⟩ y B7 ⟨_,f,rfl⟩ N b.defers (b.slot 4 _ rfl) f.lies rfl k))
theorem LX(hV:gW V)(hT:Tb W)(R:G.length<=140737488351232)(hG:jQ W gv (G.map (Value.int .i64)))(hg:∀(i:Nat) z,G[i]?=some z-> -9223372036854775808<=z/\z<9223372036854775808)(O:w0.heap.size<=x4)(l:Mm W w0 S0 D0 (AG D0 lb cb fb cp V L G.length w0) λS' w' v=>aT tP Post S' (cJ (c'.finish v) cs') w'):
 ∀(m i:Nat) (S D:Nat->Prop) (w:World) (a:Act),G.length- i=m->i<=G.length->Bt W w0 S0 D0 lb cb fb cp V L false 0 S D w->(∃old,Ow W S D w x4 (.cells old 36)/\old.size=5)->aW [(0, .pt cb),(1,gv),(4, .pt x4),(13,gv),(14, .i G.length),(15, .i i)] 40 [] a->
  aT tP Post S (cJ ((base 30).atR a [.code (SY Tryz.f30), .inLoop (SY Tryz.f30), .inBlock 0, .code (I7 Tryz.f30)]) (c'::cs')) w:=by
 obtain⟨pg,A,q,r⟩:=hG;rw[UO]at q;intro m;induction m with
 |zero=>
  intro i S D w a hm hi u d b;refine aT.vv b (λo c f=>di (m:=i) (n:=G.length) f (b.G 15) (b.G 14)) (λe k=>by simp at k) λa b=> ?_;rw[decide_eq_false o_]at b;refine aT.plain rfl (aT.plain rfl (aT.cond _ (b.G 16) ?_));exact aT.plain rfl (LY hV hT R ⟨pg,A,q⟩ O l u d (b.only ⟨rfl,rfl,rfl,trivial⟩))
 |succ m ih=>
  intro i S D w a hm hi u d b;have Q:i<G.length:=o_
  refine aT.vv b (λo c f=>di (m:=i) (n:=G.length) f (b.G 15) (b.G 14)) (λe k=>by simp at k) λa b=> ?_;rw[decide_eq_true o_]at b;refine aT.plain rfl (aT.plain rfl (aT.cond _ (b.G 16) ?_));obtain⟨ad,rfl,F⟩:=r i (.i G[i]) (by rw[Up,TX Q];rfl);have T:=hg i _ (TX Q);have Y:=d9 u.hd.old F;have a2:(ad.add i).block<W.heap.size:=by
   unfold U6 at F;split at F
   ·exact aK ‹_›
   ·cases F
  have a1:=u.hd.old.size;refine aT.uu b λa b=> ?_;refine aT.vv b (λo c f=>CJ f ((b.G 13).trans q) (b.G 15) Q) (λe k=>by simp at k) λa b=> ?_;refine aT.vv b (λo c f=>aO KZ f (b.G 18) Y) (nV λe k=>⟨ad.add i,false,by simpa using k,o_,λh=>by have:=u.hd.shun _ h;omega⟩) λa b=> ?_
  iterate 4 refine aT.uu b λa b=> ?_
  refine aT.vv b (λo c f=>Gf (room:=G[i]) f (b.G 20) (b.G 21)) (λe k=>by simp at k) λa b=> ?_;refine aT.ab b (λo w f=>MU f) λa0 w1 a b1 c1 b=> ?_;obtain⟨B1,p,t1⟩:=u.made a0 b1 c1;have hz:=u.sz;refine aT.sp b p.lies p.ours (λo c f=>GB f (b.G 7) (b.G 22) p.lies rfl) λa b=> ?_;obtain⟨B2,p,t2⟩:=B1.set p hz (iZ cb G[i] false) 75;obtain⟨old,d,H⟩:=d;obtain⟨d,y⟩:=t1 _ _ d;have d:=t2 _ _ y d;revert B2 p d;generalize et w1 w.heap.size (iZ cb G[i] false) 75=w2;intro B2 p d;refine aT.cc b Tryz.func43 λc2 X B=>IS hV hT T.2 B2 p hz ⟨old,d,H⟩ y X λS3 D3 C v ct j s n c K hv U B3 M s3 d z3=>B S3 C v λa b=> ?_;subst hv;refine aT.ab b (λo w f=>mr f) λZ w4 a b4 c4 b=> ?_;obtain⟨B4,g,t4⟩:=B3.made Z b4 c4;obtain⟨old,d,H⟩:=d;obtain⟨d,x⟩:=t4 _ _ d;have r4:=(b4.block _ (aK M)).trans M;have N:w.heap.size≠C.heap.size:=λe=>by have:=aK M;omega
  refine aT.sp b g.lies g.ours (λo c f=>iB f (b.G 8) (b.G 23) g.lies rfl) λa b=> ?_;obtain⟨I,g,t5⟩:=B4.set g B3.sz (L1.eE 0 j s n c) 36;have d:=t5 _ _ x d;have E:=(bX (cs:=L1.eE 0 j s n c) (t:=36) N).trans r4;have J:=B3.sz;revert I g d E;generalize et w4 C.heap.size (L1.eE 0 j s n c) 36=w5;intro I g d E;refine aT.vv b (λo c f=>QA 2 d_ f (b.G 7)) (λe k=>by simp at k) λa b=> ?_;refine aT.vv b (λo c f=>aO (v:= .bool ct) Bu f (b.G 24) ((aG E 2).trans rfl)) (lr E s3) λa b=> ?_;refine aT.uu b λa b=> ?_;refine aT.plain rfl (aT.cond _ (b.G 26) ?_);rcases U with⟨rfl,P⟩|⟨rfl,_,rfl,rfl⟩
  ·refine aT.uu b λa b=> ?_;refine aT.vv b (λo c f=>iY (m:=i) (n:=1) f (b.G 27) rfl o_) (λe k=>by simp at k) λa b=> ?_;rw[show((i:Int)+1)=((i+1:Nat):Int)from o_]at b;refine aT.uu b λa b=> ?_;refine aT.sp b g.lies g.ours (λo c f=>B0 rfl rfl k_ f (b.G 29) (b.G 28) g.lies (d_:0<5)) λa b=> ?_;obtain⟨B6,g,t6⟩:=I.set g J (L1.eE ((i+1:Nat):Int) j s n c) 36;have d:=t6 _ _ x d;rw[show(L1.eE 0 j s n c).setIfInBounds 0 (.i ((i+1:Nat):Int))=L1.eE ((i+1:Nat):Int) j s n c from rfl];revert B6 g d;generalize et w5 C.heap.size (L1.eE ((i+1:Nat):Int) j s n c) 36=w6;intro B6 g d;refine aT.lv b g.lies g.ours (λo c f=>tR f (b.G 8) g.lies) λa b=> ?_;refine aT.sp b d.lies d.ours (λo c f=>iB f (b.G 4) (b.G 30) d.lies H) λa b=> ?_;obtain⟨B7,d,_⟩:=B6.set d O (L1.eE ((i+1:Nat):Int) j s n c) 36;exact aT.plain rfl (aT.ends rfl (.inr ⟨_,rfl⟩) (IT (i:=x4) ⟨o_,o_⟩ P B7 ⟨_,d,rfl⟩ O b.defers (b.slot 4 _ rfl) d.lies rfl l))
  ·refine aT.vv b (λo c f=>iY (m:=i) (n:=1) f (b.G 15) rfl o_) (λe k=>by simp at k) λa b=> ?_;rw[show((i:Int)+1)=((i+1:Nat):Int)from o_]at b;refine aT.uu b λa b=> ?_;exact aT.plain rfl (aT.plain rfl (ih (i+1) _ _ _ _ o_ o_ I ⟨old,d,H⟩ (b.only ⟨rfl,rfl,rfl,rfl,rfl,rfl,trivial⟩)))
end
section
variable{W:World}{S0 D0:Nat->Prop}{lb cb fb cp:Nat}{V:List Int}{L:ByteArray}{c':Frame}{cs':List Frame}{G:List Int}{gv:Value}{on:Bool}{sl:Int}
theorem IU(J:gW V)(x:Tb W)(q:G.length<=140737488351232)(A:jQ W gv (G.map (Value.int .i64)))(I:∀(i:Nat) z,G[i]?=some z-> -9223372036854775808<=z/\z<9223372036854775808)(M:Hd W S0 D0 w0)(K:Kp D0 lb cb fb cp V L on sl w0)(f:Mm W w0 S0 D0 (AG D0 lb cb fb cp V L G.length w0) λR w' v=>aT tP Post R (cJ (c'.finish v) cs') w'):
 aT tP Post S0 (bC tP 30 #[.pk cb 0,gv] (c'::cs')) w0:=by
 obtain⟨m,c,h,_⟩:=id A;rw[UO]at h;subst h;show aT tP Post S0 (cJ (TJ tP 30 ([.pk cb 0, .slice m G.length c]:List Value).toArray .normal) (c'::cs')) w0;rw[aZ (N:=40) [.pk cb 0, .slice m G.length c] Tryz.func30 Pr rfl];have d:=aQ [.pk cb 0, .slice m G.length c] 40 s_;refine aT.ab d (λo w H=>mr H) λs X a Q P d=> ?_;obtain⟨e,n,_⟩:=(Bt.first M K).made s Q P;refine aT.uu d λa d=> ?_;refine aT.cc d Tryz.func42 λY r j=>Hd.unl e.kp e.hd x r λt B l v F T O C u=>j t l v λa d=> ?_;obtain⟨rfl,S,D⟩:=F;have U:Bt W w0 S0 D0 lb cb fb cp V L false 0 t B l:=⟨T,e.low,λb k=>O b (e.sub b k),TW e.sz C,λy p E=>u y p (e.ow y p E),S,λb k g=>(D b (e.sub b k) g).trans (e.keep b k g)⟩;have n:=u _ _ n
 iterate 3 refine aT.uu d λa d=> ?_
 refine aT.plain rfl (aT.plain rfl (aT.plain rfl ?_));exact LX J x q A I (TB _) f G.length 0 t B l _ o_ (Nat.zero_le _) U ⟨_,n,rfl⟩ (d.only ⟨rfl,rfl,rfl,rfl,rfl,rfl,trivial⟩)
theorem Pe:Tryz.f16.body=some (.seq (rG Tryz.f16 0) (.seq (rG Tryz.f16 1) .ret)):=k_
theorem A8(Z:gW V)(hT:Tb W)(E:G.length<=140737488351232)(hG:jQ W gv (G.map (Value.int .i64)))(X:∀(i:Nat) z,G[i]?=some z-> -9223372036854775808<=z/\z<9223372036854775808)(hH:Hd W S0 D0 w0)(hK:Kp D0 lb cb fb cp V L on sl w0)(q:Mm W w0 S0 D0 (AG D0 lb cb fb cp V L G.length w0) λS' w' v=>aT tP Post S' (cJ (c'.finish v) cs') w'):
 aT tP Post S0 (bC tP 16 #[.pk lb 0,gv] (c'::cs')) w0:=by show aT tP Post S0 (cJ (TJ tP 16 ([.pk lb 0,gv]:List Value).toArray .normal) (c'::cs')) w0;rw[aZ (N:=11) [.pk lb 0,gv] Tryz.func16 Pe rfl];have f:=aQ [.pk lb 0,gv] 11 s_;refine aT.ab f (λo w l=>mr l) λF w1 a b1 c1 f=> ?_;obtain⟨h,g,_⟩:=(Bt.first hH hK).made F b1 c1;refine aT.uu f λa f=> ?_;refine aT.vv f (λo c l=>Na l (f.G 5)) (λe x=>by simp at x) λa f=> ?_;refine aT.vv f (λo c l=>QC l (f.G 6)) (λe x=>by simp at x) λa f=> ?_;refine aT.vv f (λo c l=>aO (v:= .pk cb 0) KY l (f.G 7) ((aG h.kp.lin 0).trans rfl)) (lr h.kp.lin (h.hd.own lb h.kp.dl).2.1) λa f=> ?_;refine aT.uu f λa f=> ?_;refine aT.cc f Tryz.func30 λc2 Y A=>IU Z hT E hG X h.hd h.kp λH K C v T H2 e2 M J=>A H C v λa f=> ?_;obtain⟨r,j,s,n,c,rfl,U,D,K2,R⟩:=T;have B2:Bt W w0 S0 D0 lb cb fb cp V L j s H K C:=⟨H2,h.low,λb B=>e2 b (h.sub b B),TW h.sz M,λy p S=>J y p (h.ow y p S),K2,λb B u=>(R b (h.sub b B) u).trans (h.keep b B u)⟩;have g:=J _ _ g;refine aT.sp f g.lies g.ours (λo c l=>iB l (f.G 4) (f.G 10) g.lies rfl) λa f=> ?_;obtain⟨m,g,_⟩:=B2.set g (TB _) (L1.eE r j s n c) 36;revert m g;generalize et C w0.heap.size (L1.eE r j s n c) 36=I;intro m g;refine aT.plain rfl (aT.ends rfl (.inr ⟨_,rfl⟩) (aT.leaveE (b:=base 16) (.agg (L1.eE r j s n c)) rfl f.defers Tryz.func16 (λd=> ?_) (q H K I _ ⟨r,j,s,n,c,rfl,U,D,m.kp,m.keep⟩ m.hd m.sub m.sz m.ow)));obtain⟨Q,O⟩:=kY (P:=tP) (fn:=Tryz.f16) (ty:=36) (t:=4) (n:=5) sF (λw=>k_) rfl (.agg (L1.eE r j s n c)) w0.heap.size _ (I.at d) ⟨_,_,f.slot 4 _ rfl,g.lies,rfl,rfl⟩;refine⟨Q,λe x=> ?_⟩;obtain⟨_,k,rfl⟩:=O e x;exact kb (aK g.lies) g.ours
end
theorem gS(w:World)(c:Nat):Bw w (w.at c):=⟨rfl,rfl,rfl,TB _,λ_ _=>rfl⟩
theorem Gg{y:Operand}{m n:Int}(a:o.op= .binOp .neq 34 x y u)(c:ev x= .i m)(b:ev y= .i n):Yl tP ev o w (.bool (m !=n)) #[]:=by constructor<;>simp[execOp,a,c,b,go_sem]
theorem j7.yl{S:Nat->Prop}{R:Value->World->Prop}(h:∀c,Yl tP a.eval o (w.at c) v es)(d:∀e∈es,EvL (dj S) w.heap.size e)(f:∀c,R v (w.at c)):j7 tP S a o w R:=λc=>⟨v,w.at c,(h c).1,TB _,λe b=>d e (by rw[(h c).2]at b;exact b),f c⟩
theorem mx{p:Op}(a:ops[n]?=some o)(h:(ops[n]?).map (·.op)=some p):o.op=p:=by rw[a]at h;exact Option.some.inj h
theorem Il(i:a.defers=ds)(f:N<=a.tmps.size)(h:∀p∈F,a.tmps[p.1]?=some p.2):aW F N ds a:=⟨i,f,λd v b=>by
 induction F with
 |nil=>cases b
 |cons p F c=>
  rw[List.lookup_cons]at b;split at b
  ·rename_i e;cases b;rw[beq_iff_eq]at e;subst e;exact h p s_
  ·exact c (λq g=>h q (by simp[g])) b⟩
section
variable{W:World}{S0 D0 S:Nat->Prop}{lb cb fb cp:Nat}{V:List Int}{L:ByteArray}{on:Bool}{sl:Int}{x:Nat}{o:Obj}
theorem Hd.grow(a:Hd W S D w)(b:Bw w w'):Hd W S D w'/\∀y p,Ow W S D w y p->Ow W S D w' y p:=by have i:=a.old.size;refine⟨⟨a.two,⟨b.os.trans a.old.os,b.tape.trans a.old.tape,b.output.trans a.old.output,TW i b.size,λr c=>(b.block r o_).trans (a.old.block r c)⟩,a.shun,λr c=> ?_⟩,λy p h=>⟨h.new,h.ours,h.out,(b.block y (aK h.lies)).trans h.lies⟩⟩;obtain⟨g,f,o,d,e⟩:=a.own r c;exact⟨g,f,o,(b.block r (aK d)).trans d,e⟩
def StE(D0:Nat->Prop)(w0:World)(V:List Int)(L:ByteArray)(N:Nat)(E:Nat->Prop)(v:Value)(w':World):Prop:=
 ∃(lb cb fb cp r:Nat) (j:Bool) (s n c:Int),v= .tuple #[.pk lb 0, .agg (L1.eE r j s n c)]/\(1<=r/\r<=N+1)/\lJ iJ V L j s n c/\Kp E lb cb fb cp V L j s w'/\∀b cur,D0 b->w0.heap[b]?=some (.cells cur 3)->w'.heap[b]?=w0.heap[b]?
theorem P1:Tryz.f15.body=some (.seq (rG Tryz.f15 0) (.seq (rG Tryz.f15 1) (.seq (.seq (rG Tryz.f15 2) (.cond (.tmp 25) (.seq (rG Tryz.f15 3) .ret) .skip)) (.seq (rG Tryz.f15 4) (.seq (rD Tryz.f15 5) .ret))))):=k_
variable{c':Frame}{cs':List Frame}{G:List Int}{gv:Value}{kp:ByteArray}{gb cap:Nat}
theorem td(hL:L.size=16384)(a4:kp.size=16)(hV:gW V)(hr:w0.rangeAt gb 0 (V.map (Value.int .i64)))(J:D0 gb)(hT:Tb W)(a6:G.length<=140737488351232)(O:jQ W gv (G.map (Value.int .i64)))(hg:∀(i:Nat) z,G[i]?=some z-> -9223372036854775808<=z/\z<9223372036854775808)(hH:Hd W S0 D0 w0)
 (Q:Mm W w0 S0 D0 (StE D0 w0 V L G.length) λS' w' v=>aT tP Post S' (cJ (c'.finish v) cs') w'):
 aT tP Post S0 (bC tP 15 #[.s L, .sk gb 85 cap, .s kp,gv] (c'::cs')) w0:=by
 show aT tP Post S0 (cJ (TJ tP 15 ([.s L, .sk gb 85 cap, .s kp,gv]:List Value).toArray .normal) (c'::cs')) w0;rw[aZ (N:=32) [.s L, .sk gb 85 cap, .s kp,gv] Tryz.func15 P1 rfl];have f:=aQ [.s L, .sk gb 85 cap, .s kp,gv] 32 s_;refine aT.uu f λa f=> ?_;refine aT.ab f (λo w x=>mr x) λa8 w1 a b1 c1 f=> ?_;obtain⟨H1,g,t1⟩:=hH.made a8 b1 c1;have r1:w1.rangeAt gb 0 (V.map (Value.int .i64)):=λj v X=>d9 b1 (hr j v X)
 iterate 3 refine aT.uu f λa f=> ?_
 refine aT.cc f Tryz.func29 λc2 Z E=>H1.newL (cap:=cap) hL a4 hV r1 J hT Z λS2 D2 w2 v X H2 e2 z2 k2 t2=>E S2 w2 v λa f=> ?_;obtain⟨C,cb,fb,cp,rfl,K2⟩:=X;have g:=t2 _ _ g
 iterate 9 refine aT.uu f λa f=> ?_
 refine aT.vv f (λo c x=>Gg (m:=0) (n:=0) x (f.G 23) rfl) (λe I=>by simp at I) λa f=> ?_;refine aT.uu f λa f=> ?_;refine aT.plain rfl (aT.cond _ (f.G 25) ?_)
 iterate 2 refine aT.uu f λa f=> ?_
 refine aT.cc f Tryz.func16 λc2 Z E=>A8 hV hT a6 O hg H2 K2 λS3 D3 F v X H3 e3 z3 t3=>E S3 F v λa f=> ?_;obtain⟨r,j,s,n,c,rfl,a2,a1,K3,k3⟩:=X;have g:=t3 _ _ g;refine aT.ab f (λo w x=>mr x) λa7 U a b4 c4 f=> ?_;obtain⟨H4,B,t4⟩:=H3.made a7 b4 c4;have a3:w0.heap.size≠F.heap.size:=λe=>by have:=aK g.lies;omega
 have g:=t4 _ _ g;have K4:=K3.same λb J=>by obtain⟨_,_,_,q,_⟩:=H3.own b J;exact b4.block b (aK q)
 refine aT.sp f B.lies B.ours (λo c x=>iB x (f.G 12) (f.G 29) B.lies rfl) λa f=> ?_;obtain⟨H5,l,t5⟩:=H4.set B (L1.eE r j s n c) 36;have g:=t5 _ _ a3 g;have K5:=K4.same (w':=et U F.heap.size (L1.eE r j s n c) 36) λb J=>bX (by rintro rfl;exact B.out J);have z5:w0.heap.size<=(et U F.heap.size (L1.eE r j s n c) 36).heap.size:=by rw[fY];have:=b1.size;have:=b4.size;omega
 have T5:∀y p,Ow W S0 D0 w0 y p->Ow W S3 D3 (et U F.heap.size (L1.eE r j s n c) 36) y p/\y≠w0.heap.size:=λy p S=>⟨t5 y p (λe=>by have h1:=aK S.lies;have h2:=b1.size;omega) (t4 y p (t3 y p (t2 y p (t1 y p S)))),λe=>by have:=aK S.lies;omega⟩
 have E5:∀b,D0 b->D3 b:=λb A=>e3 b (e2 b A);have I5:∀b D,D0 b->w0.heap[b]?=some (.cells D 3)->(et U F.heap.size (L1.eE r j s n c) 36).heap[b]?=w0.heap[b]?:=λb D A H=>by
  have l0:=aK H;have g1:=(b1.block b l0).trans H;have g2:=(k2 b (aK g1) (hH.own b A).2.1).1.trans g1;have nc:b≠cb:=by rintro rfl;obtain⟨_,K,_,_,h⟩:=K2.ch;rw[g2]at h;injection h with h;injection h with _ h;cases h
  have g3:=(k3 b (e2 b A) nc).trans g2;have g4:=(b4.block b (aK g3)).trans g3;rw[bX (by rintro rfl;exact B.out (E5 _ A)),g4,H]
 revert H5 l g K5 z5 T5 I5;generalize et U F.heap.size (L1.eE r j s n c) 36=w5;intro H5 l g K5 z5 T5 I5;have f:aW [(9, .pt w0.heap.size),(10, .pt C),(12, .pt F.heap.size)] 32 [] a:=f.only ⟨rfl,rfl,rfl,trivial⟩;refine aT.plain rfl (aT.plain rfl ?_);refine aT.grows (fx:=[(9, .pt w0.heap.size),(10, .pt C),(12, .pt F.heap.size)]) (ds:=[30,31,8]) (N:=32) (df:=[]) (G:=λq u _=>([.pk C 0, .agg (L1.eE r j s n c), .pk C 0]:List Value)[q]?=some u) k_ k_ (λ_ _ _ _ h _=>h) (λq o a w' hn x A Y R=> ?_)
  (λm a w'=>(m=3/\Bw w5 w'/\aW [(8, .pt C),(9, .pt w0.heap.size),(31, .agg (L1.eE r j s n c))] 32 [] a)\/(m=4/\∃T,Bw w5 T/\w'=et T w0.heap.size (L1.eE r j s n c) 36/\aW [(8, .pt C),(9, .pt w0.heap.size)] 32 [] a))
  (λa w' O=> ?_) (λm o a w' ab hm x hS a5=> ?_) (λa w' hS=> ?_) f.defers f.size (f.all s_)
 ·rcases(by simp at hn;omega:q=0\/q=1\/q=2)with rfl|rfl|rfl
  ·exact j7.yl (v:= .pk C 0) (es:=#[]) (λc=>uW (mx (p:= .move (.tmp 10)) x k_) (aB (Y (10,_) s_))) (λe I=>by simp at I) λc=>⟨rfl,gS _ _⟩
  ·intro c;have H:(w'.at c).heap[F.heap.size]?=_:=(A.block _ (aK l.lies)).trans l.lies;obtain⟨q1,q2⟩:=tR (ev:=a.eval) (mx (p:= .load 36 (.tmp 12)) x k_) (aB (Y (12,_) s_)) H;refine⟨_,_,q1,TB _,λe I=> ?_,rfl,gS _ _⟩;obtain⟨k,rfl⟩:=q2 e I;exact kb (aK H) l.ours
  ·obtain⟨v,h1,h2⟩:=R 0 30 rfl k_;cases h2;exact j7.yl (v:= .pk C 0) (es:=#[]) (λc=>Ms (mx (p:= .assign (.tmp 30)) x k_) (aB h1)) (λe I=>by simp at I) λc=>⟨rfl,gS _ _⟩
 ·obtain⟨v8,h8,e8⟩:=O.come 2 8 rfl trivial;obtain⟨ac,a9,aa⟩:=O.come 1 31 rfl trivial;cases e8;cases aa;refine .inl ⟨rfl,O.old,Il O.defers O.size λp hp=> ?_⟩;simp only[U4,TY,or_false]at hp;rcases hp with rfl|rfl|rfl
  ·exact h8
  ·exact O.fixed (9,_) s_
  ·exact a9
 ·have a0:(bV Tryz.f15 5).size=4:=k_
  rcases hS with⟨rfl,A,f⟩|⟨rfl,_⟩
  ·have l9:=(A.block _ (aK g.lies)).trans g.lies;exact aT.sp f l9 g.ours (λo c x=>iB x (f.G 9) (f.G 31) l9 rfl) λa f=>a5 _ _ (.inr ⟨rfl,w',A,rfl,f.only ⟨rfl,rfl,trivial⟩⟩)
  ·have:=(gA x).1;omega
 ·have a0:(bV Tryz.f15 5).size=4:=k_
  rcases hS with⟨h,_⟩|⟨_,T,M,rfl,f⟩
  ·omega
  ·obtain⟨H6,t6⟩:=H5.grow M;have K6:=K5.same λb J=>by obtain⟨_,_,_,q,_⟩:=H5.own b J;exact M.block b (aK q)
   have g:=t6 _ _ g;obtain⟨H7,o7,t7⟩:=H6.set g (L1.eE r j s n c) 36;have K7:=K6.same (w':=et T w0.heap.size (L1.eE r j s n c) 36) λb J=>bX (by rintro rfl;exact g.out J);have ad:=M.size;refine aT.ends rfl (.inr ⟨_,rfl⟩) (aT.leaveE (b:=base 15) (.tuple #[.pk C 0, .agg (L1.eE r j s n c)]) rfl f.defers Tryz.func15 (λd=> ?_) (Q S3 D3 _ _ ⟨C,cb,fb,cp,r,j,s,n,c,rfl,a2,a1,K7,λb D A H=>(bX (by rintro rfl;exact g.out (E5 _ A))).trans ((M.block b (aK ((I5 b D A H).trans H))).trans (I5 b D A H))⟩ H7 E5 (by rw[fY];omega) λy p S=>t7 y p (T5 y p S).2 (t6 y p (T5 y p S).1)));obtain⟨q1,q2⟩:=GT (P:=tP) (fn:=Tryz.f15) (ty:=36) (t:=9) (r:=8) (n:=5) sF (λw=>k_) true rfl (.tuple #[.pk C 0, .agg (L1.eE r j s n c)]) w0.heap.size _ ((et T w0.heap.size (L1.eE r j s n c) 36).at d) ⟨_,_,_,f.slot 9 _ rfl,o7.lies,rfl,f.slot 8 _ rfl,rfl⟩;refine⟨q1,λe I=> ?_⟩;obtain⟨_,k,rfl⟩:=q2 e I;exact kb (aK o7.lies) o7.ours
end
end
section
open Go.Conc Go.RowKit
theorem zO(a:Addr):∀(n i:Nat) (b:Array Value) (w:World) (es:Array Event),(∀j,j<n->(w.cell? (a.add (i+j))).isSome)->∀ev∈(loadCellsFrom a i n b).events P w es,ev∈es\/∃ad:Addr,ad.block=a.block/\ev=⟨.cell ad,false,false⟩
 |0,_,_,_,_,_=>λev h=> .inl (by simpa[loadCellsFrom]using h)
 |n+1,i,b,w,es,hc=>λev h=>by
  simp only[loadCellsFrom,VY]at h;obtain⟨u,c⟩:=W2.1 (hc 0 o_);simp only[XN]at c;have d:(load (a.add i)).run P w= .ok u w:=by simp[c]
  rw[d]at h;rcases zO a n (i+1) (b.push u) w _ (λj e=>by have:=hc (j+1) o_;rwa [show i+(j+1)=i+1+j by omega]at this) ev h with h|h
  ·rw[events_load,c]at h;rcases Xi.1 h with h|rfl
   ·exact .inl h
   ·exact .inr ⟨_,addBlock a i,rfl⟩
  ·exact .inr h
theorem Ly:∀ev∈(askRoom b).events P w es,ev∈es\/ev=⟨.mark .noRoom,false,true⟩:=by
 intro ev h;unfold askRoom at h;split at h
 ·rw[events_mark]at h;exact Xi.1 h
 ·exact .inl (by simpa using h)
theorem AJ(z:Value)(n:Nat):VS #[z] n=(TZ n z).toArray:=by
 apply Array.ext
 ·simp[VS]
 ·intro i b a;simp[VS,Nat.mod_one]
theorem M9{y:Operand}{e:TypeId}{i:TypeInfo}{z:Value}{L:List Value}{S:Nat->Prop}(C:P.underlying t=some (.slice e))(E:P.info? e=some i)(N:i.zero=some z)(M:i.size=1)(J:z.cells=#[z])
 (l:o.op= .call {callee:= .builtin .append,args:=#[x,y],argTypes:=#[t,t]}) (Q:a.eval x= .slice none 0 0) (O:a.eval y=v) (hv:jQ w v L) (hb:L.length*i.bytes<=140737488355328) (W:L.length<=140737488355328) (X:∀(p:Addr) n c,v= .slice (some p) n c->L≠[]->¬S p.block):
 ∃v' w',(execOp a.eval o).run P w= .ok (.value v') w'/\(∀e∈(execOp a.eval o).events P w #[],EvL (dj S) w'.heap.size e)/\
  ((L=[]/\v'= .slice none 0 0/\w'=w)\/(0<L.length/\∃k c,v'= .sk w.heap.size L.length c/\w'=w.drew.alloc (.cells (L++TZ k z).toArray e))):=by
 have g:∀v' w',(VX #[t,t] o.type #[.slice none 0 0,v]).run P w= .ok v' w'->(execOp a.eval o).run P w= .ok (.value v') w':=λv' w' h=>by unfold execOp;simp only[l,resolve,invoke,builtin,Uz,a88,UR,List.map_toArray,List.map_cons,List.map_nil,Q,O,h]
 have m:=events_append_op (P:=P) (w:=w) x y t l Q O #[];obtain⟨p,A,rfl,T⟩:=hv;by_cases F:L=[]
 ·subst F;refine⟨.slice none 0 0,w,g _ _ ?_, ?_, .inl ⟨rfl,rfl,rfl⟩⟩
  ·cases p<;>simp[VX,run_underlying C,sizeOf,typeInfo,E,WC,Vr,loadCells,loadCellsFrom]
  ·rw[m];refine IA ?_;cases p<;>simp[VX,run_underlying C,sizeOf,typeInfo,E,WC,Vr,loadCells,loadCellsFrom]
 ·have f:0<L.length:=List.length_pos_iff.2 F;obtain⟨q,rfl,_⟩:=T 0 L[0] (TX f);have d:∀j u,L[j]?=some u->w.cell? (q.add j)=some u:=λj u D=>by obtain⟨Z,H,Y⟩:=T j u D;cases H;exact Y
  have K:q.block<w.heap.size:=by
   have h:=d 0 L[0] (TX f);unfold U6 at h;rw[addBlock]at h;split at h
   ·exact(gA ‹_›).1
   ·cases h
  have R:=run_append_nil (P:=P) w t o.type e i z C E N q L.length A L (by rw[M,YA]) d f o_ o_;rw[J,AJ]at R;refine⟨_,_,g _ _ R, ?_, .inr ⟨f,grownCap w L.length 0 e- L.length,grownCap w L.length 0 e,rfl,by rw[List.append_toArray]⟩⟩;rw[m];have hn:L.length≠0:=o_
  have r:¬(9223372036854775807<(L.length:Int)):=o_
  have s:¬(281474976710656<Builtin.nextslicecap L.length 0*i.bytes):=by rw[nextslicecap_zero f];omega
  have U:=run_firstCells_some (P:=P) w.drew i.size L.length q L.length A L (by rw[M,YA]) (by simpa using d);intro G h;simp[VX,run_underlying C,sizeOf,typeInfo,zeroValue,E,N,WC,F,r,s,Y3,run_firstCells_none,U,newRow]at h;have I:(∃B:Addr,B.block=q.block/\G=⟨.cell B,false,false⟩)\/G=⟨.mark .noRoom,false,true⟩:=by
   simp only[Vr,loadCells]at h;rcases zO q _ 0 _ _ _ (λj D=>by rw[M,YA]at D;rw[TL];show(w.cell? (q.add j)).isSome=true;rw[d j L[j] (TX D)];rfl) G h with h|h
   ·rcases Ly G (by simpa using h)with h|h
    ·simp at h
    ·exact .inr h
   ·exact .inl h
  rcases I with⟨B,H,rfl⟩|rfl
  ·exact sE (V:=λb=>b<(w.drew.alloc (.cells (L.toArray++(TZ (grownCap w L.length 0 e- L.length) z).toArray) e)).heap.size/\¬S b) (RO:=λ_=>False) (λb h=>h) (λb h=>h.elim) ⟨rfl, .inl ⟨by
    show B.block<_;rw[H,aR];exact Nat.lt_succ_of_lt K,by show¬S B.block;rw[H];exact X _ _ _ rfl F⟩⟩
  ·exact sE (V:=λ_=>False) (RO:=λ_=>False) (λb h=>h.elim) (λb h=>h.elim) (rfl:fm .noRoom=true)
end
section
open Go.Conc Go.RowKit L1
theorem yu{V:List Int}{L:ByteArray}{j l:Bool}{s n s' k c':Int}(h:lJ KS V L j s n c)(a:lJ KS V L l s' k c'):j=l/\s=s'/\n=k/\c=c':=by
 obtain⟨G,J,K,F,m,B,h⟩:=h;obtain⟨t,w,C,r,A,d,a⟩:=a;rcases B with⟨q,rfl,rfl,rfl,rfl,rfl⟩|⟨q,rfl⟩
 ·rcases d with⟨_,rfl,rfl,rfl,rfl,rfl⟩|⟨b,_⟩
  ·rcases h with⟨h,_⟩|⟨_,i,g,rfl,rfl,rfl,rfl⟩|⟨_,m,I,N,y,h⟩
   ·exact absurd rfl h
   ·rcases a with⟨h,_⟩|⟨_,_,_,rfl,rfl,rfl,rfl⟩|⟨_,h,_⟩
    ·exact absurd rfl h
    ·exact⟨rfl,rfl,rfl,rfl⟩
    ·rcases h with h|h
     ·exact absurd h i
     ·exact absurd h g
   ·rcases a with⟨h,_⟩|⟨_,i,g,_⟩|⟨_,_,v,E,f,a⟩
    ·exact absurd rfl h
    ·rcases m with h|h
     ·exact absurd h i
     ·exact absurd h g
    ·obtain⟨rfl,rfl⟩:=xI y f;rcases h with⟨rfl,rfl,rfl,rfl,rfl⟩|⟨p,H,M,x,h⟩
     ·rcases a with⟨_,rfl,rfl,rfl,rfl⟩|⟨z,_⟩
      ·exact⟨rfl,rfl,rfl,rfl⟩
      ·exact absurd rfl z
     ·rcases a with⟨z,_⟩|⟨_,u,D,e,a⟩
      ·exact absurd z p
      ·obtain⟨rfl,rfl⟩:=xI x e;rcases h with⟨rfl,rfl,rfl,rfl,rfl⟩|⟨o,rfl,rfl,rfl,rfl⟩
       ·rcases a with⟨_,rfl,rfl,rfl,rfl⟩|⟨z,_⟩
        ·exact⟨rfl,rfl,rfl,rfl⟩
        ·exact absurd rfl z
       ·rcases a with⟨z,_⟩|⟨_,rfl,rfl,rfl,rfl⟩
        ·exact absurd z o
        ·exact⟨rfl,rfl,rfl,rfl⟩
  ·rw[q]at b;cases b
 ·rcases d with⟨b,_⟩|⟨_,rfl⟩
  ·rw[q]at b;cases b
  ·rcases h with⟨_,rfl,rfl,rfl,rfl⟩|⟨h,_⟩|⟨h,_⟩
   ·rcases a with⟨_,rfl,rfl,rfl,rfl⟩|⟨h,_⟩|⟨h,_⟩
    ·exact⟨rfl,rfl,rfl,rfl⟩
    ·cases h
    ·cases h
   ·cases h
   ·cases h
theorem pS(d:Nat)(t:TypeId)(k c:IntKind)(a b:Int)(h:P.underlying t=some (.int c)):(V6 (d+1) t (.int k a) (.int k b)).events P w es=es:=by simp[V6,run_underlying h]
theorem FA(d:Nat)(t:TypeId)(a b:Bool)(h:P.underlying t=some .bool):(V6 (d+1) t (.bool a) (.bool b)).events P w es=es:=by simp[V6,run_underlying h]
theorem zN(d:Nat)(t:TypeId)(xs c:Array Value)(j:P.underlying t=some (.struct (P.fieldsOf t)))(l:P.stoodInHeld t=false)(w:World)(es:Array Event):
 (V6 (d+1) t (.agg xs) (.agg c)).events P w es=(XF d xs c (P.fieldsOf t).toList).events P w es:=by
 simp only[V6,VY,run_underlying j,events_underlying,Wl,run_program,events_program,l,TK,if_false];rw[←Array.forIn_toList];generalize (P.fieldsOf t).toList=k;clear j;induction k generalizing w es with
 |nil=>simp[XF]
 |cons f k i=>
  simp only[List.forIn_cons,XF,VY,Uz,Sem.events_ite,Sem.run_ite];split
  ·cases o:(part f.type xs f.offset).run P w with
   |halt x h=>simp[Xv,XM]
   |ok a h=>
    simp only[Wl,UR];cases n:(part f.type c f.offset).run P h with
    |halt x g=>simp[Xv,XM]
    |ok b g=>
     simp only[Wl,UR];cases m:(V6 d f.type a b).run P g with
     |halt x e=>simp[Xv,XM]
     |ok r e=>
      cases r
      ·simp[Xv,XM]
      ·simp only[Wl,UR,Bool.not_true,TK,if_false,a88,ab0];exact i e _
  ·simp only[a88,ab0,Wl,UR];exact i w es
theorem nl{d:Nat}{xs c:Array Value}{f:Field}{g:List Field}{a b:Value}(h:(f.name== "_")=false)(k:(part f.type xs f.offset).run P w= .ok a w)(n:(part f.type xs f.offset).events P w es=es)(j:(part f.type c f.offset).run P w= .ok b w)(m:(part f.type c f.offset).events P w es=es)(i:(V6 d f.type a b).run P w= .ok true w)(l:(V6 d f.type a b).events P w es=es):(XF d xs c (f::g)).events P w es=(XF d xs c g).events P w es:=by
 have e:f.name≠ "_" :=by simpa using h
 simp[XF,e,k,n,j,m,i,l]
theorem OI{r s n:Int}{j:Bool}:(binOp .neq 36 (.agg (L1.eE r j s n c)) (.agg (L1.eE r j s n c))).events Tryz.prog w es=es:=by
 have k:Tryz.prog.underlying 3=some (.int .i64):=k_
 have B:Tryz.prog.underlying 4=some .bool:=k_
 have A:Tryz.prog.underlying 34=some (.int .i64):=k_
 have e:binOp .neq 36 (.agg (L1.eE r j s n c)) (.agg (L1.eE r j s n c))=(do pure (.bool (!(←V6 (9999+1) 36 (.agg (L1.eE r j s n c)) (.agg (L1.eE r j s n c)))))):=rfl;have z:∃q p o m l,(Tryz.prog.fieldsOf 36).toList=[q,p,o,m,l]∧(q.type=3∧q.offset=0∧(q.name== "_")=false)∧(p.type=4∧p.offset=1∧(p.name== "_")=false)∧(o.type=3∧o.offset=2∧(o.name== "_")=false)∧(m.type=3∧m.offset=3∧(m.name== "_")=false)∧(l.type=34∧l.offset=4∧(l.name== "_")=false):=by refine⟨_,_,_,_,_,by rw[a97,Tryz.underlying36],⟨rfl,rfl,d_⟩,⟨rfl,rfl,d_⟩,⟨rfl,rfl,d_⟩,⟨rfl,rfl,d_⟩,⟨rfl,rfl,d_⟩⟩
 obtain⟨q,p,o,m,l,z,⟨i,y,G⟩,⟨h,x,F⟩,⟨g,v,E⟩,⟨f,u,D⟩,⟨d,t,C⟩⟩:=z;have H:(V6 (9999+1) 36 (.agg (L1.eE r j s n c)) (.agg (L1.eE r j s n c))).events Tryz.prog w es=es:=by rw[zN 9999 36 _ _ (by rw[a97,Tryz.underlying36]) k_,z];rw[nl (a:= .i r) (b:= .i r) G (by rw[i,y];kernel_rfl) (by rw[i,y];kernel_rfl) (by rw[i,y];kernel_rfl) (by rw[i,y];kernel_rfl) (by rw[i,run_equalIn_int w 9998 _ _ _ _ _ k];simp) (by rw[i,pS 9998 _ _ _ _ _ k])];rw[nl (a:= .bool j) (b:= .bool j) F (by rw[h,x];kernel_rfl) (by rw[h,x];kernel_rfl) (by rw[h,x];kernel_rfl) (by rw[h,x];kernel_rfl) (by rw[h,run_equalIn_bool w 9998 _ _ _ B];simp) (by rw[h,FA 9998 _ _ _ B])];rw[nl (a:= .i s) (b:= .i s) E (by rw[g,v];kernel_rfl) (by rw[g,v];kernel_rfl) (by rw[g,v];kernel_rfl) (by rw[g,v];kernel_rfl) (by rw[g,run_equalIn_int w 9998 _ _ _ _ _ k];simp) (by rw[g,pS 9998 _ _ _ _ _ k])];rw[nl (a:= .i n) (b:= .i n) D (by rw[f,u];kernel_rfl) (by rw[f,u];kernel_rfl) (by rw[f,u];kernel_rfl) (by rw[f,u];kernel_rfl) (by rw[f,run_equalIn_int w 9998 _ _ _ _ _ k];simp) (by rw[f,pS 9998 _ _ _ _ _ k])];rw[nl (a:= .i c) (b:= .i c) C (by rw[d,t];kernel_rfl) (by rw[d,t];kernel_rfl) (by rw[d,t];kernel_rfl) (by rw[d,t];kernel_rfl) (by rw[d,run_equalIn_int w 9998 _ _ _ _ _ A];simp) (by rw[d,pS 9998 _ _ _ _ _ A])];simp[XF]
 rw[e,VY,H];cases (V6 (9999+1) 36 (.agg (L1.eE r j s n c)) (.agg (L1.eE r j s n c))).run Tryz.prog w<;>simp[Xv]
section
variable{y:Operand}
theorem Ng{a b:ByteArray}(c:o.op= .binOp .add 9 x y u)(e:ev x= .s a)(d:ev y= .s b)(h:a.size+b.size<=9223372036854775807):Yl tP ev o w (.s (a++b)) #[]:=by
 have f:¬(9223372036854775807<(a.size:Int)+(b.size:Int)):=o_
 constructor<;>simp[execOp,c,e,d,go_sem,Op.stringOp,f]
theorem JC{t:ByteArray}(a:o.op= .slice 9 x none (some y) none)(c:ev x= .s t)(b:ev y= .i n)(e:n<=t.size):Yl tP ev o w (.s (t.extract 0 n)) #[]:=by
 have d:Tryz.prog.underlying 9=some .string:=k_
 constructor<;>simp[execOp,a,c,b,UF,Instr.slice,Instr.sliceBounds,run_underlying d,Instr.sliceBound,asIntOf,e]
theorem N7{a:ByteArray}(b:o.op= .binOp .neq 9 x y u)(d:ev x= .s a)(c:ev y= .s a):Yl tP ev o w (.bool false) #[]:=by constructor<;>simp[execOp,b,d,c,go_sem]
theorem sM{m n:Int}(a:o.op= .binOp .neq 3 x y u)(c:ev x= .i m)(b:ev y= .i n):Yl tP ev o w (.bool (m !=n)) #[]:=by constructor<;>simp[execOp,a,c,b,go_sem]
theorem N9{m n:Bool}(a:o.op= .binOp .neq 4 x y u)(c:ev x= .bool m)(b:ev y= .bool n):Yl tP ev o w (.bool (m !=n)) #[]:=by
 have e:execOp ev o=(do pure (.value (←(do eqGuard .neq 4 x y (.bool m) (.bool n);binOp .neq 4 (.bool m) (.bool n))))):=by simp only[execOp,a,c,b]
 unfold Yl;rw[e];cases m<;>cases n<;>constructor<;>kernel_rfl
theorem Nc{m n:Int}(a:o.op= .binOp .gtr 3 x y u)(c:ev x= .i m)(b:ev y= .i n):Yl tP ev o w (.bool (decide (m>n))) #[]:=by constructor<;>simp[execOp,a,c,b,go_sem]
theorem N8{r s n:Int}{j:Bool}(a:o.op= .binOp .neq 36 x y u)(d:ev x= .agg (L1.eE r j s n c))(b:ev y= .agg (L1.eE r j s n c)):Yl tP ev o w (.bool false) #[]:=by
 refine⟨by simp[execOp,a,d,b,go_sem,L1.eE], ?_⟩;have e:execOp ev o=(do pure (.value (←(do eqGuard .neq 36 x y (.agg (L1.eE r j s n c)) (.agg (L1.eE r j s n c));binOp .neq 36 (.agg (L1.eE r j s n c)) (.agg (L1.eE r j s n c)))))):=by simp only[execOp,a,d,b]
 have g:(eqGuard .neq 36 x y (.agg (L1.eE r j s n c)) (.agg (L1.eE r j s n c))).run tP w= .ok () w:=k_
 have f:(eqGuard .neq 36 x y (.agg (L1.eE r j s n c)) (.agg (L1.eE r j s n c))).events tP w #[]=#[]:=k_
 rw[e,VY,VY,Uz,g,f];simp only[Wl,UR,OI];cases (binOp .neq 36 (.agg (L1.eE r j s n c)) (.agg (L1.eE r j s n c))).run tP w<;>simp[Xv]
end
section
variable{S:Nat->Prop}{b:Frame}{k:List Item}
theorem aT.ap{k':List Item}{d x y:Tmp}{gv:Value}{L:List Value}(hF:aW F N ds a)(hx:F.lookup x=some (.slice none 0 0))(hy:F.lookup y=some gv)(hv:jQ w gv L)(h0:0<L.length)(hl:L.length<=1000)(hS:∀(p:Addr) n c,gv= .slice (some p) n c->L≠[]->¬S p.block)
 (next:∀w' a' q c,Bw w w'->w'.heap[w.heap.size]?=some (.cells (L++List.replicate q (Value.i 0)).toArray 3)->aW ((d, .sk w.heap.size L.length c)::F) N ds a'->aT tP Post S (cJ (b.atR a' (.inRegion ops rest::k')) cs) w') (h:gk 6 (b.atR a k)= .inRegion ops (m::rest)::k':=by rfl)
 (hop:(ops[m]?).map (λo=>(o.dst,o.op,o.guard))=some (some d, .call {callee:= .builtin .append,args:=#[.tmp x, .tmp y],argTypes:=#[22,22]},none):=by rfl) (hd:d<N:=by decide):aT tP Post S (cJ (b.atR a k) cs) w:=by
 refine aT.gr ?_ h;cases ho:ops[m]? with
 |none=>rw[ho]at hop;cases hop
 |some o=>
  rw[ho]at hop;simp only[Option.map_some,Option.some.injEq,Prod.mk.injEq]at hop;obtain⟨e1,e2,e3⟩:=hop;have hi:∃i,Tryz.prog.info? 3=some i/\i.zero=some (.i 0)/\i.size=1/\i.bytes=8:=⟨_,rfl,k_,k_,k_⟩;obtain⟨i,i1,i2,i3,i4⟩:=hi;refine aT.oper ho (by simp[Region.wanted,e3]) (λc e=>by rw[e2]at e;cases e) λc=> ?_;obtain⟨v',w',q1,q2,q3⟩:=M9 (P:=tP) (w:=w.at c) (a:=a) (S:=S) (L:=L) (k_:Tryz.prog.underlying 22=some (.slice 3)) i1 i2 i3 rfl e2 (hF.get hx) (hF.get hy) hv (by rw[i4];omega) o_ hS;rcases q3 with⟨rfl,_⟩|⟨_,q,c2,rfl,rfl⟩
  ·simp at h0
  ·refine⟨_,_,q1,rfl,by rw[aR];exact Nat.le_succ _,q2, ?_⟩;show aT tP Post S (cJ ((b.atR a (.inRegion ops (m::rest)::k')).finish _) cs) _;rw[Frame.finish_atR,ho,Option.bind_some,e1];have hat:Bw w (w.at c).drew:=⟨rfl,rfl,rfl,Nat.le_refl _,λ_ _=>rfl⟩;exact next _ _ q c2 (hat.trans (aV (w.at c).drew _)) (bJ (w.at c).drew _) (hF.put hd _)
end
structure Wq (W:World) (V:List Int) (gb:Nat) (S D:Nat->Prop) (w:World):Prop where
 hd:Hd W S D w
 dg:D gb
 cur:∃cur,w.heap[gb]?=some (.cells cur 3)
 rng:w.rangeAt gb 0 (V.map (Value.int .i64))
section
variable{W:World}{V:List Int}{gb x:Nat}{S S' E:Nat->Prop}{o:Obj}
theorem Wq.to(h:Wq W V gb S D w)(d:Hd W S' E w')(e:E gb)(hs:w'.heap[gb]?=w.heap[gb]?):Wq W V gb S' E w':=by obtain⟨a,c⟩:=h.cur;refine⟨d,e,⟨a,hs.trans c⟩,λi v b=> ?_⟩;have:=h.rng i v b;unfold U6 at this⊢;rw[show(⟨gb,0+i,none⟩:Addr).block=gb from rfl]at this⊢;rw[hs];exact this
theorem Wq.call(h:Wq W V gb S D w)(c:Hd W S' E w')(d:∀b,D b->E b)(a:∀r,r<w.heap.size->¬S r->w'.heap[r]?=w.heap[r]?/\¬S' r):Wq W V gb S' E w':=h.to c (d gb h.dg) (a gb (let ⟨_,hc⟩:=h.cur;aK hc) (h.hd.own gb h.dg).2.1).1
theorem Wq.made(h:Wq W V gb S D w)(c:∀r,S r->r<w.heap.size)(a:Bw w w')(b:w'.heap[w.heap.size]?=some o):Wq W V gb S D w'/\Ow W S D w' w.heap.size o/\∀y p,Ow W S D w y p->Ow W S D w' y p:=by obtain⟨f,e,d⟩:=h.hd.made c a b;exact⟨h.to f h.dg (a.block _ (let ⟨_,hc⟩:=h.cur;aK hc)),e,d⟩
theorem Wq.set(h:Wq W V gb S D w)(a:Ow W S D w x o)(cs:Array Value)(t:TypeId):Wq W V gb S D (et w x cs t)/\Ow W S D (et w x cs t) x (.cells cs t)/\∀y p,y≠x->Ow W S D w y p->Ow W S D (et w x cs t) y p:=by obtain⟨d,c,b⟩:=h.hd.set a cs t;exact⟨h.to d h.dg (bX (by rintro rfl;exact a.out h.dg)),c,b⟩
theorem Wq.poke(h:Wq W V gb S D w){a:Array Value}(b:w.heap[gb]?=some (.cells a 3))(i:Nat)(n:Int):Wq W (V.set i n) gb S D (et w gb (a.setIfInBounds i (.i n)) 3):=⟨(h.hd.poke h.dg b i n).1,h.dg,⟨_,cP b⟩,Kh b h.rng n⟩
end
theorem Nj{V:List Int}(a:gW V)(c:n<65536)(i:Nat):gW (V.set i n):=by
 refine⟨by rw[List.length_set];exact a.1,λj b=> ?_⟩;rw[TV,a87];have:=a.2 j b;split
 ·rename_i e;subst e;rw[if_pos (by rw[a.1];exact b)];simp only[Option.getD_some];omega
 ·rw[←TV];exact this
def NC(f:Func)(r:Code):Code:= .seq (rG f 10) (.seq (rG f 11) (.seq (.seq (rG f 12) (.cond (.tmp 86) (.seq (rG f 13) .ret) .skip)) r))
def NB(f:Func)(r:Code):Code:= .seq (.seq (rG f 14) (.cond (.tmp 125) (.seq (rG f 15) .ret) .skip)) r
def NA(f:Func)(r:Code):Code:= .seq (rG f 16) (.seq (rG f 17) (.seq (rG f 18) (.seq (.seq (rG f 19) (.cond (.tmp 146) (.seq (rG f 20) .ret) .skip)) r)))
def SP(f:Func):Code:= .seq (.seq (rG f 22) (.cond (.tmp 150) .skip (.exit 0))) (.seq (.block 1 (.seq (rD f 24) (.cond (.tmp 161) (.seq (rG f 25) .ret) .skip))) (rG f 23))
def RA(f:Func):Code:= .seq (rG f 26) .ret
def Nz(f:Func):Code:= .seq (.seq (rG f 21) (.block 0 (.loop (SP f)))) (RA f)
theorem OU:Tryz.f3.body=some (.seq (rG Tryz.f3 0) (.seq (rG Tryz.f3 1) (.seq (rG Tryz.f3 2) (.seq (rG Tryz.f3 3) (.seq (rG Tryz.f3 4) (.seq (rG Tryz.f3 5) (.seq (rG Tryz.f3 6) (.seq (rG Tryz.f3 7) (.seq (rG Tryz.f3 8) (.seq (rG Tryz.f3 9) (NC Tryz.f3 (NB Tryz.f3 (NA Tryz.f3 (Nz Tryz.f3)))))))))))))):=k_
section
variable{W:World}{seed at_ keep:ByteArray}{has word bits:Int}{gv:Value}
theorem Ny(h2:2<=W.heap.size)(s:Tb W)(hs:seed.size<=140737488351232)(hk:keep.size<=140737488351232)(hh: -9223372036854775808<=has/\has<9223372036854775808)(hw: -9223372036854775808<=word/\word<9223372036854775808)(hb: -9223372036854775808<=bits/\bits<9223372036854775808)
 (nt:∀(S D:Nat->Prop) (w:World) (a:Act) (r cap xw q c:Nat) (V:List Int) (L kp:ByteArray),Wq W V r S D w->gW V->L.size=16384->kp.size=16->Ow W S D w xw (.cells (V.map (Value.int .i64)++TZ q (Value.i 0)).toArray 3)->aW [(5,gv),(15, .bool true),(18, .s L),(19, .sk r 85 cap),(20, .sk xw 85 c),(21, .s kp)] 162 [] a->aT tP Post S (cJ ((base 3).atR a [.code (NC Tryz.f3 (NB Tryz.f3 (NA Tryz.f3 (Nz Tryz.f3))))]) []) w):
 aT tP Post (λ_=>False) (bC tP 3 #[.s seed, .i has, .s at_, .i word, .i bits,gv, .s keep] []) W:=by
 show aT tP Post (λ_=>False) (cJ (TJ tP 3 ([.s seed, .i has, .s at_, .i word, .i bits,gv, .s keep]:List Value).toArray .normal) []) W;rw[aZ (N:=162) [.s seed, .i has, .s at_, .i word, .i bits,gv, .s keep] Tryz.func3 OU rfl];have d:=aQ [.s seed, .i has, .s at_, .i word, .i bits,gv, .s keep] 162 s_;refine aT.uu d λa d=> ?_;refine aT.cc d Tryz.func8 λB g f=>(Hd.first h2).known s g λS1 D1 U v h H1 _ _ _ _=>f S1 U v λa d=> ?_;subst h
 iterate 2 refine aT.uu d λa d=> ?_
 refine aT.cc d Tryz.func9 λB g f=>H1.pick has 4 d_ hh s g λS1 D1 U v h H1 _ _ _ _=>f S1 U v λa d=> ?_;obtain⟨u,rfl,hu⟩:=h
 iterate 3 refine aT.uu d λa d=> ?_
 refine aT.cc d Tryz.func10 λB g f=>H1.grown seed o_ u o_ s g λS2 D2 O v h H2 _ _ _ _=>f S2 O v λa d=> ?_;obtain⟨C,rfl,n2,Q⟩:=h;refine aT.ab d (λo w j=>RN j) λa3 w3 a b3 c3 d=> ?_;obtain⟨H3,G,_⟩:=H2.made a3 b3 c3;refine aT.sp d G.lies G.ours (λo c j=>ND j (d.G 17) (d.G 35) G.lies rfl) λa d=> ?_;obtain⟨R,E,_⟩:=H3.set G (gz (j0 iJ seed) seed C) 27;have H:=(bX (cs:=gz (j0 iJ seed) seed C) (t:=27) (by rintro rfl;exact G.out Q:C≠O.heap.size)).trans (bk b3 n2);revert R E H;generalize et w3 O.heap.size (gz (j0 iJ seed) seed C) 27=w4;intro R E H;refine aT.lv d E.lies E.ours (λo c j=>MF j (d.G 17) E.lies) λa d=> ?_
 iterate 2 refine aT.uu d λa d=> ?_
 refine aT.cc d Tryz.func11 λB g f=>R.twoI (id:=j0 iJ seed) (seed:=seed) (iR ..) o_ (cm ..) (cm ..) (g6 ..) (g6 ..) u hu at_ ⟨#[98]⟩ H Q s g λS5 D5 w5 v h H5 e5 _ k5 t5=>f S5 w5 v λa d=> ?_;subst h;have Y:=t5 _ _ E;have n5:=(k5 C (aK H) (R.own C Q).2.1).1.trans H;have d5:=e5 C Q;have d:aW [(3, .i word),(4, .i bits),(5,gv),(6, .s keep),(15, .bool true),(17, .pt O.heap.size),(39, .s (sA iJ seed u at_++sB iJ seed u ⟨#[98]⟩))] 162 [] a:=d.only ⟨rfl,rfl,rfl,rfl,rfl,rfl,rfl,trivial⟩;refine aT.uu d λa d=> ?_;refine aT.lv d Y.lies Y.ours (λo c j=>MF j (d.G 17) Y.lies) λa d=> ?_;refine aT.cc d Tryz.func14 λB g f=>H5.kez (seed:=seed) (rt:=Mw iJ seed u) (iR ..) n5 rfl (cm ..) d5 s g λS6 D6 w6 v h H6 _ _ _ _=>f S6 w6 v λa d=> ?_;subst h;refine aT.cc d Tryz.func13 λB g f=>H6.sha (yc (j0 iJ seed) (Mw iJ seed u)) (by rw[pO (j0 iJ seed) (Mw iJ seed u) (iR ..) (cm ..)];omega) s g λS7 D7 w7 v h H7 _ _ _ _=>f S7 w7 v λa d=> ?_;subst h;have d:aW [(3, .i word),(4, .i bits),(5,gv),(6, .s keep),(15, .bool true),(18, .s (sA iJ seed u at_++sB iJ seed u ⟨#[98]⟩)),(42, .s (Sr iJ seed u))] 162 [] a:=d.only ⟨rfl,rfl,rfl,rfl,rfl,rfl,rfl,trivial⟩;refine aT.cc d Tryz.func12 λB g f=>H7.fuses (Ih (KS:=iJ) (seed:=seed) (used:=u)) 255 2 2 0 d_ s g λS8 D8 w8 v h H8 _ _ _ _=>f S8 w8 v λa d=> ?_;obtain⟨r,cap,A,rfl,⟨_,K⟩,X,d8⟩:=h;have l:gW (yd 255 (ri 2) 2 0 (Sr iJ seed u) 4):=QG 255 _ d_ ⟨(Mu (show 2<=16 by decide)).2.2.2.1,(Mu (show 2<=16 by decide)).2.2.2.2⟩ 2 0 _;revert X l;generalize yd 255 (ri 2) 2 0 (Sr iJ seed u) 4=V;intro X l;have Q8:Wq W V r S8 D8 w8:=⟨H8,d8,⟨A,K⟩,X⟩
 iterate 5 refine aT.uu d λa d=> ?_
 refine aT.cc d Tryz.func9 λB g f=>Q8.hd.pick word 85 d_ hw s g λS9 D9 w9 v h H9 e9 _ k9 _=>f S9 w9 v λa d=> ?_;obtain⟨p,rfl,hp⟩:=h;have Q9:=Q8.call H9 e9 k9;refine aT.uu d λa d=> ?_;refine aT.cc d Tryz.func9 λB g f=>Q9.hd.pick bits 65536 d_ hb s g λa7 ab F v h a9 a4 _ a0 _=>f a7 F v λa d=> ?_;obtain⟨n,rfl,hn⟩:=h;have m:=Q9.call a9 a4 a0;obtain⟨A,P⟩:=m.cur;have a1:p<A.size:=by have:=Jy m.rng p (by rw[l.1];exact hp);rw[TL,aG P]at this;exact(gA this).1
 refine aT.vv d (λo c j=>CJ j (d.G 44) (d.G 48) hp) (λe J=>by simp at J) λa d=> ?_;rw[Uu,TL]at d;refine aT.sp d P (m.hd.own r m.dg).2.1 (λo c j=>B0 rfl rfl k_ j (d.G 51) (d.G 50) P a1) λa d=> ?_;have k:=m.poke P p n;have l:=Nj l hn p;revert k l;generalize V.set p n=V;generalize et F r (A.setIfInBounds p (.i n)) 3=T;intro k l;have d:aW [(5,gv),(6, .s keep),(15, .bool true),(18, .s (sA iJ seed u at_++sB iJ seed u ⟨#[98]⟩)),(19, .sk r 85 cap)] 162 [] a:=d.only ⟨rfl,rfl,rfl,rfl,rfl,trivial⟩
 iterate 3 refine aT.uu d λa d=> ?_
 have a2:jQ T (.sk r 85 cap) (V.map (Value.int .i64)):=⟨_,cap,by rw[UO,l.1],λi z hz=>⟨_,rfl,by rw[Uu];exact k.rng i z hz⟩⟩;refine aT.low λM=>aT.ap (x:=52) (y:=53) d rfl rfl a2 (by rw[UO,l.1];decide) (by rw[UO,l.1];decide) (λp n c e _=>by cases e;exact(k.hd.own r k.dg).2.1) λaa a q c a6 a5 d=> ?_;obtain⟨a8,Z,_⟩:=k.made M a6 a5;rw[show(V.map (Value.int .i64)).length=85 from by rw[UO,l.1]]at d
 iterate 2 refine aT.uu d λa d=> ?_
 refine aT.vv d (λo c j=>Ng (b:=⟨#[0,0,0,0,0,0,0,0,0,0,0,0,0,0,0,0]⟩) j (d.G 55) rfl (by have:(ByteArray.mk #[0,0,0,0,0,0,0,0,0,0,0,0,0,0,0,0]).size=16:=rfl;omega)) (λe J=>by simp at J) λa d=> ?_;have I:16<=(keep++⟨#[0,0,0,0,0,0,0,0,0,0,0,0,0,0,0,0]⟩).size:=by rw[AS];have:(ByteArray.mk #[0,0,0,0,0,0,0,0,0,0,0,0,0,0,0,0]).size=16:=rfl;omega
 refine aT.vv d (λo c j=>JC (n:=16) j (d.G 56) rfl I) (λe J=>by simp at J) λa d=> ?_;refine aT.uu d λa d=> ?_;exact aT.plain rfl (nt _ _ _ _ r cap _ q c V _ _ a8 l Ls (by rw[TT];omega) Z (d.only ⟨rfl,rfl,rfl,rfl,rfl,rfl,trivial⟩))
end
section
variable{W:World}{S:Nat->Prop}{V:List Int}{L kp:ByteArray}{gb cap xw q c0:Nat}{G:List Int}{pg:Option Addr}{capg:Nat}
theorem Nw(hT:Tb W)(Y:G.length<=140737488351232)(hG:jQ W (.slice pg G.length capg) (G.map (Value.int .i64)))(hg:∀(i:Nat) z,G[i]?=some z-> -9223372036854775808<=z/\z<9223372036854775808)(hV:gW V)(hL:L.size=16384)(X:kp.size=16)(C:Wq W V gb S D w)(p:Ow W S D w xw (.cells (V.map (Value.int .i64)++TZ q (Value.i 0)).toArray 3))
 (d:aW [(5, .slice pg G.length capg),(15, .bool true),(18, .s L),(19, .sk gb 85 cap),(20, .sk xw 85 c0),(21, .s kp)] 162 [] a) {rest:Code}
 (nt:∀(S D:Nat->Prop) (w:World) (a:Act) (E cb fb cp l:Nat) (j:Bool) (s n c:Int),Hd W S D w->Kp D E cb fb cp V L j s w->lJ iJ V L j s n c->Ow W S D w xw (.cells (V.map (Value.int .i64)++TZ q (Value.i 0)).toArray 3)->Ow W S D w l (.cells (L1.eE 1 j s n c) 36)->l≠xw->aW [(18, .s L),(20, .sk xw 85 c0),(23, .pt l),(24, .pt E)] 162 [] a->aT tP Post S (cJ ((base 3).atR a [.code rest]) []) w):
 aT tP Post S (cJ ((base 3).atR a [.code (NC Tryz.f3 (NB Tryz.f3 rest))]) []) w:=by
 have B:∀{x:Nat} {o:Obj} {S D:Nat->Prop} {w:World},Ow W S D w x o->x<w.heap.size:=λh=>aK h.lies
 iterate 2 refine aT.uu d λa d=> ?_
 refine aT.cc d Tryz.func15 λO a0 y=>td (G:=[]) (cap:=cap) hL rfl hV C.rng C.dg hT s_ ⟨none,0,rfl,λi u h=>by simp at h⟩ (λi z h=>by simp at h) C.hd λS1 D1 P v U H1 e1 z1 t1=>y S1 P v λa d=> ?_;obtain⟨I,a7,a5,a6,r,j,s,n,c,rfl,hr,K,K1,k1⟩:=U;obtain rfl:r=1:=by simp at hr;omega
 obtain⟨a3,M⟩:=C.cur;have Q1:=C.to H1 (e1 gb C.dg) (k1 gb a3 C.dg M);have p:=t1 _ _ p
 iterate 3 refine aT.uu d λa d=> ?_
 refine aT.ab d (λo w k=>mr k) λa2 w2 a b2 c2 d=> ?_;have Q:P.heap.size≠xw:=λe=>by have:=B p;omega
 obtain⟨Q2,f,t2⟩:=Q1.made a2 b2 c2;have p:=t2 _ _ p;refine aT.uu d λa d=> ?_;refine aT.sp d f.lies f.ours (λo c k=>iB k (d.G 23) (d.G 63) f.lies rfl) λa d=> ?_;obtain⟨N,f,t3⟩:=Q2.set f (L1.eE 1 j s n c) 36;have p:=t3 _ _ (UP Q) p;revert N f p;generalize a4:P.heap.size=l at d Q;generalize et w2 l (L1.eE 1 j s n c) 36=w3;intro N f p;have d:aW [(5, .slice pg G.length capg),(15, .bool true),(18, .s L),(19, .sk gb 85 cap),(20, .sk xw 85 c0),(21, .s kp),(22, .pt I),(23, .pt l)] 162 [] a:=d.only ⟨rfl,rfl,rfl,rfl,rfl,rfl,rfl,rfl,trivial⟩
 iterate 4 refine aT.uu d λa d=> ?_
 refine aT.cc d Tryz.func15 λO a0 y=>td (G:=G) (cap:=cap) hL X hV N.rng N.dg hT Y hG hg N.hd λS4 D4 F v U H4 e4 z4 t4=>y S4 F v λa d=> ?_;obtain⟨E,cb,fb,cp,r,j',s',n',O,rfl,hr,J,K4,k4⟩:=U;obtain⟨rfl,rfl,rfl,rfl⟩:=yu K J;have p:=t4 _ _ p;have f:=t4 _ _ f
 iterate 3 refine aT.uu d λa d=> ?_
 refine aT.ab d (λo w k=>mr k) λa1 w5 a b5 c5 d=> ?_;have R:F.heap.size≠xw:=λe=>by have:=B p;omega
 have T:F.heap.size≠l:=λe=>by have:=B f;omega
 obtain⟨H5,g,t5⟩:=H4.made a1 b5 c5;have p:=t5 _ _ p;have f:=t5 _ _ f;have K5:=K4.same λb Z=>by obtain⟨_,_,_,q,_⟩:=H4.own b Z;exact b5.block b (aK q)
 refine aT.uu d λa d=> ?_;refine aT.sp d g.lies g.ours (λo c k=>iB k (d.G 25) (d.G 71) g.lies rfl) λa d=> ?_;obtain⟨H6,H,t6⟩:=H5.set g (L1.eE r j s n c) 36;have p:=t6 _ _ (UP R) p;have f:=t6 _ _ (UP T) f;have K6:=K5.same (w':=et w5 F.heap.size (L1.eE r j s n c) 36) λb Z=>bX (by rintro rfl;exact g.out Z);revert H6 H p f K6;generalize F.heap.size=A at d;generalize et w5 A (L1.eE r j s n c) 36=w6;intro H6 g p f K6;have d:aW [(5, .slice pg G.length capg),(15, .bool true),(18, .s L),(20, .sk xw 85 c0),(22, .pt I),(23, .pt l),(24, .pt E),(25, .pt A)] 162 [] a:=d.only ⟨rfl,rfl,rfl,rfl,rfl,rfl,rfl,rfl,trivial⟩
 iterate 12 refine aT.uu d λa d=> ?_
 refine aT.vv d (λo c k=>aO (v:= .i 1) ce k (d.G 83) ((aG f.lies 0).trans rfl)) (lr f.lies f.ours) λa d=> ?_;refine aT.vv d (λo c k=>sM (m:=1) (n:=1) k (d.G 84) rfl) (λe t=>by simp at t) λa d=> ?_;refine aT.uu d λa d=> ?_;refine aT.plain rfl (aT.cond _ (d.G 86) ?_);have d:aW [(5, .slice pg G.length capg),(18, .s L),(20, .sk xw 85 c0),(23, .pt l),(24, .pt E),(25, .pt A)] 162 [] a:=d.only ⟨rfl,rfl,rfl,rfl,rfl,rfl,trivial⟩;refine aT.uu d λa d=> ?_;refine aT.vv d (λo c k=>aO (v:= .bool j) Bu k (d.G 87) ((aG g.lies 1).trans rfl)) (lr g.lies g.ours) λa d=> ?_;refine aT.uu d λa d=> ?_;refine aT.vv d (λo c k=>aO (v:= .bool j) Bu k (d.G 89) ((aG f.lies 1).trans rfl)) (lr f.lies f.ours) λa d=> ?_;refine aT.vv d (λo c k=>N9 k (d.G 88) (d.G 90)) (λe t=>by simp at t) λa d=> ?_;rw[bne_self_eq_false]at d
 iterate 2 refine aT.uu d λa d=> ?_
 refine aT.vv d (λo c k=>aO (v:= .i s) ce k (d.G 93) ((aG g.lies 2).trans rfl)) (lr g.lies g.ours) λa d=> ?_;refine aT.uu d λa d=> ?_;refine aT.vv d (λo c k=>aO (v:= .i s) ce k (d.G 95) ((aG f.lies 2).trans rfl)) (lr f.lies f.ours) λa d=> ?_;refine aT.vv d (λo c k=>sM k (d.G 94) (d.G 96)) (λe t=>by simp at t) λa d=> ?_;rw[bne_self_eq_false]at d
 iterate 3 refine aT.uu d λa d=> ?_
 refine aT.vv d (λo c k=>aO (v:= .i n) ce k (d.G 100) ((aG g.lies 3).trans rfl)) (lr g.lies g.ours) λa d=> ?_;refine aT.uu d λa d=> ?_;refine aT.vv d (λo c k=>aO (v:= .i n) ce k (d.G 102) ((aG f.lies 3).trans rfl)) (lr f.lies f.ours) λa d=> ?_;refine aT.vv d (λo c k=>sM k (d.G 101) (d.G 103)) (λe t=>by simp at t) λa d=> ?_;rw[bne_self_eq_false]at d
 iterate 3 refine aT.uu d λa d=> ?_
 refine aT.vv d (λo O k=>aO (v:= .i c) Hq k (d.G 107) ((aG g.lies 4).trans rfl)) (lr g.lies g.ours) λa d=> ?_;refine aT.uu d λa d=> ?_;refine aT.vv d (λo O k=>aO (v:= .i c) Hq k (d.G 109) ((aG f.lies 4).trans rfl)) (lr f.lies f.ours) λa d=> ?_;refine aT.vv d (λo c k=>Gg k (d.G 108) (d.G 110)) (λe t=>by simp at t) λa d=> ?_;rw[bne_self_eq_false]at d
 iterate 3 refine aT.uu d λa d=> ?_
 refine aT.vv d (λo c k=>aO (v:= .i r) ce k (d.G 114) ((aG g.lies 0).trans rfl)) (lr g.lies g.ours) λa d=> ?_;refine aT.vv d (λo c k=>di (m:=r) (n:=1) k (d.G 115) rfl) (λe t=>by simp at t) λa d=> ?_;rw[decide_eq_false o_]at d
 iterate 3 refine aT.uu d λa d=> ?_
 refine aT.vv d (λo c k=>aO (v:= .i r) ce k (d.G 119) ((aG g.lies 0).trans rfl)) (lr g.lies g.ours) λa d=> ?_
 iterate 2 refine aT.uu d λa d=> ?_
 refine aT.vv d (λo c k=>iY (m:=G.length) (n:=1) k (d.G 122) rfl o_) (λe t=>by simp at t) λa d=> ?_;refine aT.vv d (λo c k=>Nc (m:=r) (n:=G.length+1) k (d.G 120) (d.G 123)) (λe t=>by simp at t) λa d=> ?_;rw[decide_eq_false o_]at d;refine aT.uu d λa d=> ?_;refine aT.plain rfl (aT.cond _ (d.G 125) ?_);exact aT.plain rfl (nt _ _ _ _ E cb fb cp l j s n c H6 K6 K p f Q (d.only ⟨rfl,rfl,rfl,rfl,trivial⟩))
end
theorem OK{V:List Int}:Mp (λE v w=>∃a cap b,v= .sk a 85 cap/\w.heap[a]?=some (.cells b 3)/\w.rangeAt a 0 (V.map (Value.int .i64))/\E a):=by refine⟨λ_ _ _ ⟨a,cap,b,f,e,i,_⟩=>⟨a,cap,b,f,e,i,trivial⟩,λD d w n v h c ⟨a,cap,b,f,e,i,_⟩=> ?_⟩;rw[f]at c;have m:=qm h c;obtain⟨o,l,_,p⟩:=h.obj a m;rw[e]at l;cases l;have k:n.heap[d a]?=some (.cells (b.map (aD d)) 3):=p d h.self;refine⟨d a,cap,_,by rw[f];simp[aD,aX],k,λj u g=> ?_,a,m,rfl⟩;have:=i j u g;rw[TL,aG e]at this;rw[TL,aG k,TQ,this];rw[Up,U1]at g;obtain⟨x,_,rfl⟩:=g;simp[aD]
section
variable{W:World}{S:Nat->Prop}{lb cb fb cp:Nat}{V:List Int}{L:ByteArray}{on:Bool}{sl:Int}{c':Frame}{cs':List Frame}
theorem Hd.flashK(d:Kp D lb cb fb cp V L on sl w)(j:Hd W S D w)(i:Tb W)(b:∀k,c'.mode≠ .panicking k)(a:Nx W w S D (λ_ v _=>v= .s L) λl w' v=>aT tP Post l (cJ (c'.finish v) cs') w'):aT tP Post S (bC tP 17 #[.pk lb 0] (c'::cs')) w:=
 j.slot (r:=2) i b (ls rfl) (λf h=>by
  have:f lb=lb:=h.2 lb d.dl;simp[aD,aX,this]) Tryz.func17 Lf.func17 (λm _ _ g=>by have c:=d.same g;exact(BY c.lin c.ch c.fls).mono λ_ _ h=>⟨_,h.1,fZ (λ_ e=>by cases e),rfl,h.2▸bR⟩) a
theorem Hd.wordsK(g:Kp D lb cb fb cp V L on sl w)(m:Hd W S D w)(l:Tb W)(d:∀q,c'.mode≠ .panicking q)(a:Nx W w S D (λE v w=>∃c cap b,v= .sk c 85 cap/\w.heap[c]?=some (.cells b 3)/\w.rangeAt c 0 (V.map (Value.int .i64))/\E c) λs w' v=>aT tP Post s (cJ (c'.finish v) cs') w'):aT tP Post S (bC tP 18 #[.pk lb 0] (c'::cs')) w:=
 m.slot (r:=2) l d OK (λj h=>by
  have:j lb=lb:=h.2 lb g.dl;simp[aD,aX,this]) Tryz.func18 Lf.func18 (λt _ _ k=>by have f:=g.same k;exact(AL f.lin f.ch).mono λe w' ⟨v,h,c,cap,b,i,_,p,o,n⟩=>⟨v,h,by rw[i];exact fZ (λ_ e=>by cases e),⟨c,cap,b,i,p,o,trivial⟩,n⟩) a
end
section
variable{W:World}{S:Nat->Prop}{V:List Int}{yb xw q c0 cy:Nat}
theorem JR{k:List Item}{z:Int}(I:i<85)(M:w.cell? ⟨yb,i,none⟩=some (.i z))(O:w.cell? ⟨xw,i,none⟩=some (.i z))(E:yb<w.heap.size/\¬S yb)(F:xw<w.heap.size/\¬S xw)
 (C:aW [(20, .sk xw 85 c0),(28, .sk yb 85 cy),(29, .i i)] 162 [] a) (L:∀w' a,Bw w w'->aW [(20, .sk xw 85 c0),(28, .sk yb 85 cy),(29, .i i),(161, .bool false)] 162 [] a->aT tP Post S (cJ ((base 3).atR a k) []) w'):
 aT tP Post S (cJ ((base 3).atR a (.code (rD Tryz.f3 24)::k)) []) w:=by
 have P:(bV Tryz.f3 24).size=9:=k_
 refine aT.grows (fx:=[(20, .sk xw 85 c0),(28, .sk yb 85 cy),(29, .i i)]) (ds:=[153,154,155,156,157,158,159,160,161]) (N:=162) (df:=[]) (G:=λn u _=>([.sk yb 85 cy, .i i, .pk yb i, .i z, .sk xw 85 c0, .i i, .pk xw i, .i z, .bool false]:List Value)[n]?=some u) k_ k_ (λ_ _ _ _ h _=>h) (λn o a w' Q j t l q=> ?_)
  (λm a w'=>m=9/\Bw w w'/\aW [(20, .sk xw 85 c0),(28, .sk yb 85 cy),(29, .i i),(161, .bool false)] 162 [] a)
  (λa w' s=> ?_) (λm o a w' D T j B U=> ?_) (λa w' B=>L w' a B.2.1 B.2.2) C.defers C.size (C.all s_)
 ·have g:∀m d u,([153,154,155,156,157,158,159,160,161]:List Nat)[m]?=some d->([.sk yb 85 cy, .i i, .pk yb i, .i z, .sk xw 85 c0, .i i, .pk xw i, .i z, .bool false]:List Value)[m]?=some u->gt (bV Tryz.f3 24) n m=true->a.eval (.tmp d)=u:=λm d u X W V=>by obtain⟨v,Y,J⟩:=q m d X V;rw[W]at J;cases J;exact aB Y
  have K:∀b:Nat,(⟨b,0,none⟩:Addr).add i=⟨b,i,none⟩:=λb=>by rw[Uu,TL]
  rcases(by simp at Q;omega:n=0\/n=1\/n=2\/n=3\/n=4\/n=5\/n=6\/n=7\/n=8)with rfl|rfl|rfl|rfl|rfl|rfl|rfl|rfl|rfl
  ·exact j7.yl (es:=#[]) (λc=>uW (mx (p:= .move (.tmp 28)) j k_) (aB (l (28,_) s_))) (λe f=>by simp at f) λc=>⟨rfl,gS _ _⟩
  ·exact j7.yl (es:=#[]) (λc=>uW (mx (p:= .move (.tmp 29)) j k_) (aB (l (29,_) s_))) (λe f=>by simp at f) λc=>⟨rfl,gS _ _⟩
  ·exact j7.yl (v:= .pointer (some ⟨yb,i,none⟩)) (es:=#[]) (λc=>K yb▸CJ (mx (p:= .indexAddr 22 (.tmp 153) (.tmp 154)) j k_) (g 0 153 _ rfl rfl k_) (g 1 154 _ rfl rfl k_) I) (λe f=>by simp at f) λc=>⟨rfl,gS _ _⟩
  ·exact j7.yl (λc=>aO (v:= .i z) ce (mx (p:= .load 3 (.tmp 155)) j k_) (g 2 155 _ rfl rfl k_) (d9 (t.trans (gS w' c|>λh=>⟨h.os,h.tape,h.output,h.size,λr A=>h.block r (TC A t.size)⟩)) M)) (nV λe f=>⟨⟨yb,i,none⟩,false,by simpa using f,TC E.1 t.size,E.2⟩) λc=>⟨rfl,gS _ _⟩
  ·exact j7.yl (es:=#[]) (λc=>uW (mx (p:= .move (.tmp 20)) j k_) (aB (l (20,_) s_))) (λe f=>by simp at f) λc=>⟨rfl,gS _ _⟩
  ·exact j7.yl (es:=#[]) (λc=>uW (mx (p:= .move (.tmp 29)) j k_) (aB (l (29,_) s_))) (λe f=>by simp at f) λc=>⟨rfl,gS _ _⟩
  ·exact j7.yl (v:= .pointer (some ⟨xw,i,none⟩)) (es:=#[]) (λc=>K xw▸CJ (mx (p:= .indexAddr 22 (.tmp 157) (.tmp 158)) j k_) (g 4 157 _ rfl rfl k_) (g 5 158 _ rfl rfl k_) I) (λe f=>by simp at f) λc=>⟨rfl,gS _ _⟩
  ·exact j7.yl (λc=>aO (v:= .i z) ce (mx (p:= .load 3 (.tmp 159)) j k_) (g 6 159 _ rfl rfl k_) (d9 (t.trans (gS w' c|>λh=>⟨h.os,h.tape,h.output,h.size,λr A=>h.block r (TC A t.size)⟩)) O)) (nV λe f=>⟨⟨xw,i,none⟩,false,by simpa using f,TC F.1 t.size,F.2⟩) λc=>⟨rfl,gS _ _⟩
  ·refine j7.yl (v:= .bool false) (es:=#[]) (λc=> ?_) (λe f=>by simp at f) λc=>⟨rfl,gS _ _⟩;have:=sM (w:=w'.at c) (mx (p:= .binOp .neq 3 (.tmp 156) (.tmp 160) 3) j k_) (g 3 156 _ rfl rfl k_) (g 7 160 _ rfl rfl k_);rwa [bne_self_eq_false]at this
 ·obtain⟨v,x,y⟩:=s.come 8 161 rfl trivial;cases y;refine⟨rfl,s.old,Il s.defers s.size λp H=> ?_⟩;simp only[U4,TY,or_false]at H;rcases H with rfl|rfl|rfl|rfl
  ·exact s.fixed (20,_) s_
  ·exact s.fixed (28,_) s_
  ·exact s.fixed (29,_) s_
  ·exact x
 ·have:=(gA j).1;have R:9<=m:=by simpa using T
  omega
theorem JS(s:gW V)(F:∀w',Bw W w'->Post (.bool true) w'):
 ∀(m i:Nat) (w:World) (a:Act),85- i=m->i<=85->Hd W S D w->D yb->(∃g,w.heap[yb]?=some (.cells g 3))->w.rangeAt yb 0 (V.map (Value.int .i64))->Ow W S D w xw (.cells (V.map (Value.int .i64)++TZ q (Value.i 0)).toArray 3)->aW [(20, .sk xw 85 c0),(28, .sk yb 85 cy),(29, .i i)] 162 [] a->
  aT tP Post S (cJ ((base 3).atR a [.code (SP Tryz.f3), .inLoop (SP Tryz.f3), .inBlock 0, .code (RA Tryz.f3)]) []) w:=by
 intro m;induction m with
 |zero=>
  intro i w a C E p _ _ _ _ b;obtain rfl:i=85:=o_
  iterate 3 refine aT.uu b λa b=> ?_
  refine aT.vv b (λo c f=>di (m:=(85:Nat)) (n:=(85:Nat)) f (b.G 147) (b.G 149)) (λe h=>by simp at h) λa b=> ?_;rw[decide_eq_false o_]at b;refine aT.plain rfl (aT.cond _ (b.G 150) ?_);refine aT.plain rfl ?_;refine aT.uu b λa b=> ?_;exact aT.plain rfl (aT.ends rfl (.inr ⟨_,rfl⟩) (aT.finS Tryz.func3 k_ rfl (b.slot 14 (.bool true) rfl) b.defers λd=>F _ (p.at d).old))
 |succ m z=>
  intro i w a C E p x k u f b;have l:i<85:=o_
  iterate 3 refine aT.uu b λa b=> ?_
  refine aT.vv b (λo c f=>di (m:=i) (n:=(85:Nat)) f (b.G 147) (b.G 149)) (λe h=>by simp at h) λa b=> ?_;rw[decide_eq_true o_]at b;refine aT.plain rfl (aT.cond _ (b.G 150) ?_);obtain⟨g,k⟩:=k;have t:=Jy u i (by rw[s.1];exact l);rw[TL]at t;have A:w.cell? ⟨xw,i,none⟩=some (.i (V.getD i 0)):=by rw[aG f.lies,X3,List.getElem?_append_left (by rw[UO,s.1];exact l),Up,TV,TX (by rw[s.1];exact l)];rfl
  refine aT.plain rfl (aT.plain rfl (aT.plain rfl (aT.plain rfl ?_)));refine JR l t A ⟨aK k,(p.own yb x).2.1⟩ ⟨aK f.lies,f.ours⟩ (b.only ⟨rfl,rfl,rfl,trivial⟩) λw' a r b=>aT.cond _ (b.G 161) ?_;obtain⟨G,y⟩:=p.grow r
  iterate 1 refine aT.uu b λa b=> ?_
  refine aT.vv b (λo c f=>iY (m:=i) (n:=1) f (b.G 151) rfl o_) (λe h=>by simp at h) λa b=> ?_;rw[show((i:Int)+1)=((i+1:Nat):Int)from o_]at b;refine aT.uu b λa b=> ?_;exact aT.plain rfl (aT.plain rfl (z (i+1) w' _ o_ o_ G x ⟨g,(r.block _ (aK k)).trans k⟩ (λj v B=>d9 r (u j v B)) (y _ _ f) (b.only ⟨rfl,rfl,rfl,trivial⟩)))
end
section
variable{W:World}{S:Nat->Prop}{V:List Int}{L:ByteArray}{lb cb fb cp x23 xw q c0:Nat}{j:Bool}{s n:Int}
theorem Gv(T:Tb W)(hV:gW V)(hP:∀w',Bw W w'->Post (.bool true) w')(hH:Hd W S D w)(hK:Kp D lb cb fb cp V L j s w)(R:lJ iJ V L j s n c)(l:Ow W S D w xw (.cells (V.map (Value.int .i64)++TZ q (Value.i 0)).toArray 3))(f:Ow W S D w x23 (.cells (L1.eE 1 j s n c) 36))
 (d:aW [(18, .s L),(20, .sk xw 85 c0),(23, .pt x23),(24, .pt lb)] 162 [] a):
 aT tP Post S (cJ ((base 3).atR a [.code (NA Tryz.f3 (Nz Tryz.f3))]) []) w:=by
 have C:∀{x:Nat} {o:Obj} {S D:Nat->Prop} {w:World},Ow W S D w x o->x<w.heap.size:=λh=>aK h.lies;refine aT.uu d λa d=> ?_;refine aT.cc d Tryz.func16 λY t k=>A8 (G:=[]) hV T s_ ⟨none,0,rfl,λi u h=>by simp at h⟩ (λi z h=>by simp at h) hH hK λS1 D1 A v E H1 e1 z1 t1=>k S1 A v λa d=> ?_;obtain⟨r,j',s',n',Y,rfl,hr,F,K1,_⟩:=E;obtain rfl:r=1:=by simp at hr;omega
 obtain⟨rfl,rfl,rfl,rfl⟩:=yu R F;have l:=t1 _ _ l;have f:=t1 _ _ f;refine aT.ab d (λo w p=>mr p) λU w2 a b2 c2 d=> ?_;have P:A.heap.size≠xw:=λe=>by have:=C l;omega
 have Q:A.heap.size≠x23:=λe=>by have:=C f;omega
 obtain⟨H2,g,t2⟩:=H1.made U b2 c2;have l:=t2 _ _ l;have f:=t2 _ _ f;have K2:=K1.same λb I=>by obtain⟨_,_,_,q,_⟩:=H1.own b I;exact b2.block b (aK q)
 refine aT.sp d g.lies g.ours (λo c p=>iB p (d.G 26) (d.G 127) g.lies rfl) λa d=> ?_;obtain⟨M,B,t3⟩:=H2.set g (L1.eE 1 j s n c) 36;have l:=t3 _ _ (UP P) l;have f:=t3 _ _ (UP Q) f;have K:=K2.same (w':=et w2 A.heap.size (L1.eE 1 j s n c) 36) λb I=>bX (by rintro rfl;exact g.out I);revert M B l f K;generalize A.heap.size=y at d;generalize et w2 y (L1.eE 1 j s n c) 36=w3;intro M g l f K;refine aT.uu d λa d=> ?_;refine aT.cc d Tryz.func17 λY t k=>Hd.flashK K M T t λS4 D4 w4 v E H4 e4 _ k4 O=>k S4 w4 v λa d=> ?_;subst E;have K4:=(K.same (w':=w4) λb I=>by obtain⟨_,q1,_,q,_⟩:=M.own b I;exact(k4 b (aK q) q1).1).ours e4
 have l:=O _ _ l;have f:=O _ _ f;have g:=O _ _ g
 iterate 2 refine aT.uu d λa d=> ?_
 refine aT.cc d Tryz.func18 λY t k=>Hd.wordsK K4 H4 T t λS5 D5 Z v E H5 e5 _ k5 N=>k S5 Z v λa d=> ?_;obtain⟨yb,cy,X,rfl,J,r5,d5⟩:=E;have l:=N _ _ l;have f:=N _ _ f;have g:=N _ _ g;have d:aW [(18, .s L),(20, .sk xw 85 c0),(23, .pt x23),(26, .pt y),(27, .s L),(131, .sk yb 85 cy)] 162 [] a:=d.only ⟨rfl,rfl,rfl,rfl,rfl,rfl,trivial⟩;refine aT.uu d λa d=> ?_;refine aT.lv d g.lies g.ours (λo c p=>tR p (d.G 26) g.lies) λa d=> ?_;refine aT.lv d f.lies f.ours (λo c p=>tR p (d.G 23) f.lies) λa d=> ?_;refine aT.vv d (λo c p=>N8 p (d.G 132) (d.G 133)) (λe H=>by simp at H) λa d=> ?_
 iterate 3 refine aT.uu d λa d=> ?_
 refine aT.vv d (λo c p=>N7 p (d.G 136) (d.G 137)) (λe H=>by simp at H) λa d=> ?_
 iterate 6 refine aT.uu d λa d=> ?_
 refine aT.vv d (λo c p=>sM (m:=(85:Nat)) (n:=(85:Nat)) p (d.G 142) (d.G 144)) (λe H=>by simp at H) λa d=> ?_;refine aT.uu d λa d=> ?_;refine aT.plain rfl (aT.cond _ (d.G 146) ?_);refine aT.uu d λa d=> ?_;refine aT.plain rfl (aT.plain rfl (aT.plain rfl ?_));exact JS hV hP 85 0 Z _ rfl d_ H5 d5 ⟨X,J⟩ r5 l (d.only ⟨rfl,rfl,rfl,trivial⟩)
end
theorem JW{W:World}{seed o b:ByteArray}{has word bits:Int}{t:Value}{G:List Int}(K:2<=W.heap.size)(l:Tb W)(hs:seed.size<=140737488351232)(y:b.size<=140737488351232)(A: -9223372036854775808<=has/\has<9223372036854775808)(x: -9223372036854775808<=word/\word<9223372036854775808)(C: -9223372036854775808<=bits/\bits<9223372036854775808)(k:G.length<=140737488351232)(r:jQ W t (G.map (Value.int .i64)))(B:∀(i:Nat) z,G[i]?=some z-> -9223372036854775808<=z/\z<9223372036854775808)(F:∀w',Bw W w'->Post (.bool true) w'):
 aT tP Post (λ_=>False) (bC tP 3 #[.s seed, .i has, .s o, .i word, .i bits,t, .s b] []) W:=by obtain⟨O,u,d,_⟩:=id r;rw[UO]at d;subst d;exact Ny K l hs y A x C λS D w a R M N q c V L Q E p H h e m=>Nw l k r B p H h E e m λS D w a P X T U v j s n c J I g e f _ m=>Gv l p F J I g e f m
end
end Go.Proofs.YtkmoglhgkcnalabGreatDoor
