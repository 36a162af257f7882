/- A part of what the last text of the claim imports: texts laid together, without remarks and blanks, by a program. -/
import Derived.Test.YtkmoglhgkcnalaaGreatDoorAwn4
set_option maxHeartbeats 16000000
set_option maxRecDepth 100000
open Array renaming getElem?_eq_some_iff->av9,length_toList->ax1,replicate->ay3,getElem?_modify->By,getElem?_toList->aA9,getElem?_setIfInBounds->aG_
open Bool renaming and_eq_true->aB1,and_assoc->aZ7,and_true->b0_
open ByteArray renaming size_extract->aw6
open Go.Addr renaming add_mid->az3,add->aF6
open Go.Builtin renaming append_->aJ4,copy_->aJ8,max_->b08
open Go.Ending renaming returned->aB2
open Go.Frame renaming enter->ay2
open Go.Instr renaming fieldAt->aw1,buildSlice->ax5,build->ax9,sliceBounds->ay6,sliceBound->ay8,loadAt->ay9,sliceAt->az5,slice->aD8,makeSlice->aH9,makeInterface->aQ0
open Go.IntKind renaming i64->ax8,wrap_i64->ay4,u8->aB3,wrap_u8->aD_
open Go.Op renaming equalIn->aI_,maxDepth->aJ5
open Go.RowKit.Below renaming refl->aw8
open Go.Sem renaming runT_eq->az7
open Go.Value renaming oneCell'->ax4,slice->aR0
open Go.World renaming cell?->ay_,setCell->IT
open Int renaming natCast_add->aA8,toNat_natCast->aE3
open List renaming getElem?_eq_getElem->aw3,getD_eq_getElem?_getD->aw4,getElem?_eq_some_iff->aw5,mem_of_getElem?->aw7,range->ax_,replicate->ax2,take_of_length_le->ay5,getElem?_toArray->AS,size_toArray->AT,length_append->BY,getElem?_append_left->If,getElem?_append_right->aA5,map_append->aC1,length_take->aC2,drop_eq_nil_of_le->aC6,mem_cons->aC7,getElem?_take->aC8,not_mem_nil->aD1,drop_eq_getElem_cons->aE_,eq_nil_of_length_eq_zero->aF4,getElem?_drop->aG1,getElem_mem->aH0,getElem?_replicate->aH6,range_succ->aI0,getElem_set->aI8,length_replicate->aL5,getElem_map->aM6,nil_append->aN6,mem_append->aN7,take_add_one->aR1,getElem?_append->aV0,all_cons->aW_,all_nil->b07
open Nat renaming le_refl->aw0,lt_of_lt_of_le->aw2,zero_add->aw9,zero_le->ay7,le_trans->az_,min_eq_left->aE9,min_eq_right->aK6
open Ne renaming symm->aA3
open Option renaming map_eq_some_iff->IS
open Std.Legacy.Range renaming forIn_eq_forIn_range'->aV1
open UInt8 renaming ofNat->aE1,toNat_ofNat'->aO_
set_option linter.all false
open Go.Proofs.Tryz
open Go
variable{D c qi rs sl st':Int}{F fx:List (Nat×Value)}{Goal:Goroutine->World->Prop}{K k':List Item}{KS ms ns:List Int}{L kp s seed:ByteArray}{N b b2 b4 b5 bh bu cb fb fq Tp g gb hq i j k kb lb ln lq m n pb q qk qw r tb tq wb zb:Nat}{P:Program}{R:Value->World->Prop}{X Z:Nat->Prop}{a:Act}{ad:Addr}{args cur:Array Value}{cs:List Frame}{d:Tmp}{df ds:List Deferred}{ev:Operand->Value}{f:FuncId}{fn:Func}{fr:Frame}{gd:Option (Nat×Bool)}{lp:Option Addr}{ls xs:List Value}{lv v:Value}{o:Oper}{ops:Array Oper}{p:Op}{rest:List Nat}{t' tt ty:TypeId}{w w' Tm w0:World}{x y z:Operand}
namespace Go.Proofs.YtkmoglhgkcnalaaGreatDoor.L1
open Go Go.Conc Go.RowKit Go.Proofs.YtkmoglhgkcnalaaGreatDoor
def nE(W:List Int)(k:Nat):Bool:=decide (0<=ja (W.getD (5+20*k) 0) (W.getD (5+20*k+1) 0))&&decide (0<=ja (W.getD (5+20*k+2) 0) (W.getD (5+20*k+3) 0))
def mn(W:List Int)(k:Nat):Bool:=(ja (W.getD (5+20*k) 0) (W.getD (5+20*k+1) 0)==1)&&(ja (W.getD (5+20*k+2) 0) (W.getD (5+20*k+3) 0)==0)
theorem iA{W:List Int}(hi:i<20):(iU W k).getD i 0=W.getD (5+20*k+i) 0:=by
 simp only[iU,aw4];rw[aC8,if_pos hi,aG1]
theorem nD{W:List Int}:gZ (iU W k)=nE W k:=by
 unfold gZ nE;rw[uo,uo,iA o_,iA o_,iA o_,iA o_];rfl
theorem Es{W:List Int}(h:gZ (iU W k)=true):iv (iU W k)=mn W k:=by
 unfold gZ at h;rw[aB1]at h;have:=Et h.1 h.2;unfold iv mn;rw[iA o_,iA o_,iA o_,iA o_]at this;rw[iA o_,iA o_];exact this.symm
theorem Jm{W:List Int}(hW:dL W):mE W=(yu W&&decide (0<=lF (oT W))&&(ax_ 4).all (nE W)):=by
 unfold mE;rw[(sd hW).1]
 congr 1
 simp only[show ax_ 4=[0,1,2,3]from rfl,aW_,b07];rw[nD,nD,nD,nD]
theorem MJ{W:List Int}(hW:dL W):(mE W=true->P8 W (W.getD 0 0) (lF (oT W)) 0 ((ax_ 4).map (mn W)) ((ax_ 4).map λk=>⟨(dr ((iU W k).drop 4)).toArray⟩)):=λh=>by
 refine .inl ⟨h,rfl,rfl,?_,?_,rfl⟩
 .refine(sd hW).2 ?_;unfold mE at h;simp only[aB1]at h;exact h.1.2
 .unfold yK;apply List.map_congr_left;intro k hk;refine(Es ?_).symm;unfold mE at h;rw[aB1]at h;exact List.all_eq_true.1 h.2 k hk
section
variable{W:List Int}{off cap:Nat}{st le:Int}{ok0:Bool}
theorem FB(hW:dL W)(hr:w0.rangeAt g off (W.map (Value.int .i64)))(nt:∀a w vU vH,Rf w0 b2 b5 st le ((ax_ 4).map (mn W)) ((ax_ 4).map λk=>⟨(dr ((iU W k).drop 4)).toArray⟩) vU vH w->aB [(2,.pk b2 0),(5,.pk b5 0),(6,.bool (ok0&&(ax_ 4).all (nE W)))] 142 [] a->Rn kX Goal ((base 101).atR a [.code (F_ f101)]) cs w):
 ∀(m k:Nat) (w:World) (a:Act) (vU vH:Value),4- k=m->k<=4->Rf w0 b2 b5 st le ((ax_ k).map (mn W)) ((ax_ k).map λk=>⟨(dr ((iU W k).drop 4)).toArray⟩) vU vH w->aB [(0,.slice (some ⟨g,off,none⟩) 85 cap),(2,.pk b2 0),(5,.pk b5 0),(6,.bool (ok0&&(ax_ k).all (nE W))),(7,.int .i64 k)] 142 [] a->Rn kX Goal ((base 101).atR a [.code (G3 f101),.inLoop (G3 f101),.inBlock 0,.code (F_ f101)]) cs w:=by
 intro m;induction m with
 |zero=>
  intro k w a vU vH hm hk hR J
  iterate 2 refine ao J λa J=>?_
  refine a9 rfl (ak _ (J.Q 70) ?_);rw[decide_eq_false o_];obtain rfl:k=4:=by omega
  exact a9 rfl (nt _ _ _ _ hR (J.only ⟨rfl,rfl,rfl,trivial⟩))
 |succ m ih=>
  intro k w a vU vH hm hk hR J;have hk4:k<4:=by omega
  have rw0:w.rangeAt g off (W.map (Value.int .i64)):=λj v hv=>aU hR.old (hr j v hv)
  iterate 2 refine ao J λa J=>?_
  refine a9 rfl (ak _ (J.Q 70) ?_);rw[decide_eq_true o_];refine ao J λa J=>?_;refine ai J (λo ho=>iX (m:=20) (n:=k) ho rfl (J.Q 73) o_) λa J=>?_;refine ai J (λo ho=>aN (m:=5) (n:=20*k) ho rfl (J.Q 74) o_) λa J=>?_;refine ao J λa J=>?_;have J:aB [(0,.slice (some ⟨g,off,none⟩) 85 cap),(2,.pk b2 0),(5,.pk b5 0),(6,.bool (ok0&&(ax_ k).all (nE W))),(7,.int .i64 k),(8,.int .i64 ((5+20*k:Nat):Int))] 142 [] a:=J.only ⟨rfl,rfl,rfl,rfl,rfl,rfl,trivial⟩;generalize hx:ja (W.getD (5+20*k) 0) (W.getD (5+20*k+1) 0)=x;generalize hy:ja (W.getD (5+20*k+2) 0) (W.getD (5+20*k+3) 0)=y
  iterate 2 refine a9 rfl ?_
  refine cC J ?_
  iterate 2 refine kO ?_
  refine aj ?_ (y:=λo a w ho z=>b_ (t:=24) (5+20*k) k_ ho gx gx o_);refine aj ?_ (y:=λo a w ho z=>(av aC ho gx (jd hW.1 rw0 z.b (5+20*k) o_)).1)
  iterate 2 refine kO ?_
  refine aj ?_ (y:=λo a w ho z=>aN (n:=1) ho gx rfl o_);refine aj ?_ (y:=λo a w ho z=>b_ (t:=24) (5+20*k+1) k_ ho gx gx o_);refine aj ?_ (y:=λo a w ho z=>(av aC ho gx (jd hW.1 rw0 z.b (5+20*k+1) o_)).1);refine cy func128 (λw' hC _=>(tP (W.getD (5+20*k) 0) (W.getD (5+20*k+1) 0) w').mono λe Tm ⟨h1,h2⟩=>⟨h1,h2▸aw8 _ _⟩) ?_;refine kO ?_;rw[hx];refine cc λa w1 J b1 _=>?_;have R1:=hR.below b1;have rw1:w1.rangeAt g off (W.map (Value.int .i64)):=λj v hv=>aU R1.old (hr j v hv);refine a9 rfl ?_;refine cC J ?_
  iterate 2 refine kO ?_
  refine aj ?_ (y:=λo a w ho z=>aN (n:=2) ho gx rfl o_);refine aj ?_ (y:=λo a w ho z=>b_ (t:=24) (5+20*k+2) k_ ho gx gx o_);refine aj ?_ (y:=λo a w ho z=>(av aC ho gx (jd hW.1 rw1 z.b (5+20*k+2) o_)).1)
  iterate 2 refine kO ?_
  refine aj ?_ (y:=λo a w ho z=>aN (n:=3) ho gx rfl o_);refine aj ?_ (y:=λo a w ho z=>b_ (t:=24) (5+20*k+3) k_ ho gx gx o_);refine aj ?_ (y:=λo a w ho z=>(av aC ho gx (jd hW.1 rw1 z.b (5+20*k+3) o_)).1);refine cy func128 (λw' hC _=>(tP (W.getD (5+20*k+2) 0) (W.getD (5+20*k+3) 0) w').mono λe Tm ⟨h1,h2⟩=>⟨h1,h2▸aw8 _ _⟩) ?_;refine kO ?_;rw[hy];refine cc λa w2 J b2' _=>?_;have R2:=R1.below b2';have er:nE W k=(decide (x≥0)&&decide (y≥0)):=by unfold nE;rw[hx,hy]
  have eu:mn W k=((x==1)&&(y==0)):=by unfold mn;rw[hx,hy]
  have next:∀{a:Act},aB [(6,.bool (ok0&&(ax_ (k+1)).all (nE W))),(9,.int .i64 x),(10,.int .i64 y),(0,.slice (some ⟨g,off,none⟩) 85 cap),(2,.pk b2 0),(5,.pk b5 0),(7,.int .i64 k),(8,.int .i64 ((5+20*k:Nat):Int))] 142 [] a->Rn kX Goal ((base 101).atR a [.code (.seq (rG f101 13) (.seq (rG f101 14) (.seq (.seq (rG f101 15) (.block 2 (.loop (G2 f101)))) (rG f101 20)))),.inBlock 1,.code (rG f101 8),.inLoop (G3 f101),.inBlock 0,.code (F_ f101)]) cs w2:=λ{a} J=>by
   refine ao J λa J=>?_;refine ai J (λo ho=>(av gL ho (J.Q 106) ((ar R2.c5 1).trans rfl)).1) λa J=>?_
   iterate 3 refine ao J λa J=>?_
   have hpk:∀{a:Act},aB [(113,.bool (mn W k)),(107,vU),(6,.bool (ok0&&(ax_ (k+1)).all (nE W))),(0,.slice (some ⟨g,off,none⟩) 85 cap),(2,.pk b2 0),(5,.pk b5 0),(7,.int .i64 k),(8,.int .i64 ((5+20*k:Nat):Int))] 142 [] a->Rn kX Goal ((base 101).atR a (.inRegion (bM f101 13) [8,9,10,11]::[.code (.seq (rG f101 14) (.seq (.seq (rG f101 15) (.block 2 (.loop (G2 f101)))) (rG f101 20))),.inBlock 1,.code (rG f101 8),.inLoop (G3 f101),.inBlock 0,.code (F_ f101)])) cs w2:=λ{a} J=>by
    refine bA J (λo ho=>MC ho (J.Q 113)) λw3 a b3 c3 z3 J=>?_;have R3:=R2.below b3;refine dX J (λo SS=>R3.use (by simp;omega) c3 (J.Q 107) (J.Q 114) o SS) λv4 w4 ⟨⟨p4,q4,e4⟩,k4,R4⟩ a J=>?_;subst e4;refine ao J λa J=>?_;refine aP J (λo ho=>cI rfl rfl k_ ho (J.Q 116) (J.Q 115) k4 (by decide:1<4)) λa J=>?_;rw[show(eT st le vU vH).setIfInBounds 1 (.slice p4 (((ax_ k).map (mn W)).length+1) q4)=eT st le (.slice p4 (((ax_ k).map (mn W)).length+1) q4) vH from rfl];rw[show(ax_ k).map (mn W)++[mn W k]=(ax_ (k+1)).map (mn W)from by rw[aI0,aC1];rfl]at R4;revert R4;generalize aR0 p4 (((ax_ k).map (mn W)).length+1) q4=vU';generalize put w4 b5 (eT st le vU' vH) 45=w5;intro R4
    iterate 2 refine ao J λa J=>?_
    refine a9 rfl (a9 rfl (a9 rfl ?_));have rw5:w5.rangeAt g off (W.map (Value.int .i64)):=λj v hv=>aU R4.old (hr j v hv);refine JY hW rw5 hk4 (λa w6 hh eh b6 J=>?_) 16 0 w5 _ rfl o_ (aw8 _ _) (J.only ⟨rfl,rfl,rfl,rfl,rfl,rfl,rfl,rfl,trivial⟩);have R6:=R4.below b6;refine ao J λa J=>?_;refine ai J (λo ho=>(av gK ho (J.Q 132) ((ar R6.c5 3).trans rfl)).1) λa J=>?_;refine ao J λa J=>?_;refine bA J (λo ho=>MB ho (J.Q 134)) λw7 a b7 c7 z7 J=>?_;have R7:=R6.below b7;refine dX J (λo SS=>R7.hash (by simp;omega) c7 (J.Q 133) (J.Q 135) o SS) λv8 w8 ⟨⟨p8,q8,e8⟩,k8,R8⟩ a J=>?_;subst e8;refine ao J λa J=>?_;refine aP J (λo ho=>cI rfl rfl k_ ho (J.Q 137) (J.Q 136) k8 (by decide:3<4)) λa J=>?_;rw[show(eT st le vU' vH).setIfInBounds 3 (.slice p8 (((ax_ k).map λk=>(⟨(dr ((iU W k).drop 4)).toArray⟩:ByteArray)).length+1) q8)=eT st le vU' (.slice p8 (((ax_ k).map λk=>(⟨(dr ((iU W k).drop 4)).toArray⟩:ByteArray)).length+1) q8)from rfl];rw[eh,show((ax_ k).map λk=>(⟨(dr ((iU W k).drop 4)).toArray⟩:ByteArray))++[⟨(dr ((iU W k).drop 4)).toArray⟩]=(ax_ (k+1)).map λk=>(⟨(dr ((iU W k).drop 4)).toArray⟩:ByteArray)from by rw[aI0,aC1];rfl]at R8;refine ao J λa J=>?_;refine ai J (λo ho=>aN (n:=1) ho (J.Q 71) rfl o_) λa J=>?_;refine ao J λa J=>?_;exact a9 rfl (a9 rfl (ih (k+1) _ _ _ _ o_ o_ R8 (J.only ⟨rfl,rfl,rfl,rfl,rfl,trivial⟩)))
   by_cases e1:x=1
   .rw[show(x==1)=true from by simpa using e1]at J eu
    iterate 2 refine ao J λa J=>?_
    refine ai J (λo ho=>fN ho (J.Q 110) (J.Q 112)) λa J=>?_;rw[show(y==0)=mn W k from by rw[eu];rfl]at J;exact hpk (J.only ⟨rfl,rfl,rfl,rfl,rfl,rfl,rfl,rfl,trivial⟩)
   .rw[show(x==1)=false from by simpa using e1]at J eu
    iterate 2 refine bY J λa J=>?_
    refine ai J (λo ho=>gk ho (J.Q 110) rfl) λa J=>?_;rw[show false=mn W k from by rw[eu];rfl]at J;exact hpk (J.only ⟨rfl,rfl,rfl,rfl,rfl,rfl,rfl,rfl,trivial⟩)
  have ek:(ok0&&(ax_ (k+1)).all (nE W))=(((ok0&&(ax_ k).all (nE W))&&decide (x≥0))&&decide (y≥0)):=by
   rw[aI0,List.all_append,aW_,b07,er,b0_,aZ7,aZ7]
  rw[ek]at next
  generalize (ok0&&(ax_ k).all (nE W))=ok at J next
  iterate 2 refine ao J λa J=>?_
  cases ok with
  |true=>
   iterate 2 refine ao J λa J=>?_
   refine ai J (λo ho=>fN ho (J.Q 98) (J.Q 100)) λa J=>?_;refine ao J λa J=>?_;generalize decide (x≥0)=u at J next
   cases u with
   |true=>
    iterate 2 refine ao J λa J=>?_
    refine ai J (λo ho=>fN ho (J.Q 102) (J.Q 104)) λa J=>?_;refine ao J λa J=>?_;exact a9 rfl (next (J.only ⟨rfl,rfl,rfl,rfl,rfl,rfl,rfl,rfl,trivial⟩))
   |false=>
    iterate 2 refine bY J λa J=>?_
    refine ai J (λo ho=>gk ho (J.Q 102) rfl) λa J=>?_;refine ao J λa J=>?_;exact a9 rfl (next (J.only ⟨rfl,rfl,rfl,rfl,rfl,rfl,rfl,rfl,trivial⟩))
  |false=>
   iterate 2 refine bY J λa J=>?_
   refine ai J (λo ho=>gk ho (J.Q 98) rfl) λa J=>?_;refine ao J λa J=>?_
   iterate 2 refine bY J λa J=>?_
   refine ai J (λo ho=>gk ho (J.Q 102) rfl) λa J=>?_;refine ao J λa J=>?_;exact a9 rfl (next (J.only ⟨rfl,rfl,rfl,rfl,rfl,rfl,rfl,rfl,trivial⟩))
end

theorem oP{base:Nat}{e:TypeId}(h:w.ownsRow base e 1 v n xs):cV w v xs:=by
 have hl:xs.length=n:=by have:=h.1;omega
 rcases h.2 with⟨rfl,rfl⟩|⟨g,cap,cur,rfl,_,h2,_,_,_,h3⟩
 .refine⟨none,0,by rw[hl],λi u hu=>?_⟩;have:=(aw5.1 hu).1;omega
 .refine⟨some ⟨g,0,none⟩,cap,by rw[hl],λi u hu=>⟨_,rfl,?_⟩⟩;have hi:=(aw5.1 hu).1;rw[az3,aw9,ar h2];rw[←h3,aC8,if_pos o_]at hu;simpa using hu
def QY(W:List Int)(w:World)(v:Value)(w':World):Prop:=∃st le c pu lu qu ph lh qh us hs,v=.tuple #[.agg (eT st le (.slice pu lu qu) (.slice ph lh qh)),.int .i64 c]/\P8 W st le c us hs/\Bw w w'/\w'.ownsRow w.heap.size 4 1 (.slice pu lu qu) us.length (us.map Value.bool)/\w'.ownsRow w.heap.size 9 1 (.slice ph lh qh) hs.length (hs.map Value.string)
theorem CX{W:List Int}{off cap:Nat}(hW:dL W)(hr:w.rangeAt g off (W.map (Value.int .i64))):Cl kX 101 #[.slice (some ⟨g,off,none⟩) 85 cap] w λe w'=>∃v,e=.returned v/\QY W w v w':=by
 refine fS (t:=2) (u:=3) (ty:=45) (n:=4) func101 rfl (by exact underlying45) rfl zS λcs=>?_;refine bv (N:=142) func101 O0 λa J=>?_;refine bA J (λo ho=>u7 ho) λw1 a b1 c1 z1 J=>?_;have r1:w1.rangeAt g off (W.map (Value.int .i64)):=λj v hv=>aU b1 (hr j v hv)
 iterate 2 refine ao J λa J=>?_
 refine bz J func75 (wX hW r1) λw' hw a J=>?_;rw[hw]
 iterate 3 refine ao J λa J=>?_
 refine a9 rfl (ak _ (J.Q 17) ?_)
 iterate 2 refine a9 rfl ?_
 refine QF hW r1 (J.only ⟨rfl,rfl,trivial⟩) λa w2 b5 b2 n5 c5 J=>?_;have r2:w2.rangeAt g off (W.map (Value.int .i64)):=λj v hv=>aU b2 (r1 j v hv);refine a9 rfl ?_;refine QE hW r2 c5 J λa w3 b3 J=>?_;have B3:Bw w w3:=ae (ae b1 b1.size b2) (az_ b1.size b2.size) b3;refine ao J λa J=>?_;rw[show(yu W&&decide (0<=lF (oT W)))=((yu W&&decide (0<=lF (oT W)))&&(ax_ 0).all (nE W))from(b0_ _).symm]at J;refine a9 rfl (a9 rfl (a9 rfl ?_));refine FB (w0:=w) (b2:=w.heap.size) (b5:=b5) (st:=W.getD 0 0) (le:=lF (oT W)) (ok0:=yu W&&decide (0<=lF (oT W))) hW hr (λa w4 vU vH R4 J=>?_) 4 0 w3 _ (.slice none 0 0) (.slice none 0 0) rfl o_ ⟨B3,aw0 _,by omega,by omega,bk b3 (bk b2 c1),bk b3 c5,⟨rfl,.inl ⟨rfl,rfl⟩⟩,⟨rfl,.inl ⟨rfl,rfl⟩⟩⟩ (J.only ⟨rfl,rfl,rfl,rfl,rfl,trivial⟩);obtain⟨pu,qu,rfl⟩:=lw R4.ou;obtain⟨ph,qh,rfl⟩:=lw R4.oh;refine ao J λa J=>?_;rw[←Jm hW]at J;refine ao J λa J=>?_;refine a9 rfl (ak _ (J.Q 139) ?_);cases hk:mE W with
 |true=>
  refine ai J (λo ho=>kZ ho (J.Q 5) R4.c5) λa J=>?_;refine aP J (λo ho=>mp ho (J.Q 2) (J.Q 141) R4.c2 rfl) λa J=>?_;refine ao J λa J=>?_;exact dn 6 _ (aS rfl (.inr ⟨_,rfl⟩) (bj ⟨_,_,w.heap.size,_,_,_,rfl,J.defers,J.slot 2 _ rfl,aZ R4.c2,rfl,J.slot 3 _ rfl,_,rfl,_,_,_,_,_,_,_,_,_,_,_,rfl,MJ hW hk,R4.old.trans (cL (aw0 _)),eZ R4.ou R4.c2 d_,eZ R4.oh R4.c2 d_⟩))
 |false=>
  refine ai J (λo ho=>Mw ho) λa J=>?_;refine aP J (λo ho=>mp ho (J.Q 2) (J.Q 140) R4.c2 rfl) λa J=>?_;refine ao J λa J=>?_;exact dn 6 _ (aS rfl (.inr ⟨_,rfl⟩) (bj ⟨_,_,w.heap.size,_,_,_,rfl,J.defers,J.slot 2 _ rfl,aZ R4.c2,rfl,J.slot 3 _ rfl,_,rfl,0,0,1,none,0,0,none,0,0,[],[],rfl,.inr ⟨hk,rfl⟩,R4.old.trans (cL (aw0 _)),⟨rfl,.inl ⟨rfl,rfl⟩⟩,⟨rfl,.inl ⟨rfl,rfl⟩⟩⟩))

end Go.Proofs.YtkmoglhgkcnalaaGreatDoor.L1
namespace Go.Proofs.YtkmoglhgkcnalaaGreatDoor
open Go Go.Conc Go.RowKit
section
variable{C:iV}{b:Frame}{k:List Item}
theorem Rn.wide{Zo:Goroutine->World->Prop}(h:Rn C Goal fr cs w)(hg:∀g w,Goal g w->Zo g w):Rn C Zo fr cs w:=λL hG=>h L λ_ _ _ q=>hG _ _ _ (hg _ _ q)
theorem oB{xs:Array Operand}{ats:Array TypeId}{vs:List Value}{X:List PanicEntry->World->Prop}(J:aB F N ds a)(hf:C.P.funcs[f]?=some fn)(hC:Cl C f vs.toArray w λe w'=>(∃v,e=.returned v/\R v w')\/∃ch,e=.panicked ch/\X ch w')
 (next:∀v w',R v w'->∀a',aB ((d,v)::F) N ds a'->Rn C Goal (b.atR a' (.inRegion ops rest::k')) cs w') (cut:∀ch w',X ch w'->Rn C Goal {b.atR a (.inRegion ops (m::rest)::k')with mode:=.panicking ch} cs w') (h0:fa 6 (b.atR a k)=.inRegion ops (m::rest)::k':=by rfl)
 (h:(ops[m]?).map (λo=>(o.dst,o.op,o.guard))=some (some d,.call {callee:=.value (.func f),args:=xs,argTypes:=ats},none):=by rfl) (ha:xL F xs.toList=some vs:=by rfl) (hd:d<N:=by decide) (Tc:(fn.name== "runtime.NumGoroutine")=false:=by kernel_rfl) (hb:fn.body.isNone=false:=by kernel_rfl):Rn C Goal (b.atR a k) cs w:=by
 refine bK ?_ h0;obtain⟨o,ho,e1,e2,e3⟩:=kS h;refine yg ho (e3 _) (by rw[e2];simp) (nA e2 (by rw[←Ag J _ _ ha,←Array.toList_map,Array.toArray_toList]) hf Tc hb rfl) (yj hC (λv w' h1=>?_) λch w' h1=>?_)
 .rcases h1 with⟨u,e,hR⟩|⟨ch,e,_⟩
  .cases e;rw[mL ho,e1];exact next v w' hR _ (J.put hd v)
  .cases e
 .rcases h1 with⟨u,e,_⟩|⟨c,e,hX⟩
  .cases e
  .cases e;exact cut ch w' hX
def AO(f:FuncId)(cs:List Frame)(R:Ending->World->Prop)(g:Goroutine)(w:World):Prop:=∃(a:Act) (k:List Item) (ch:List PanicEntry),g=dj {(base f).atR a k with mode:=.panicking ch} cs/\a.defers=[]/\R (.panicked ch) w
theorem AO.on{R:Ending->World->Prop}{c:Frame}{cs':List Frame}(hf:C.P.funcs[f]?=some fn)(L:Lg C)(h2:∀ch w',R (.panicked ch) w'->L.ok (c.raise ch) cs w')(h:AO f (c::cs) R (dj fr cs') w):L.ok fr cs' w:=by
 obtain⟨a,k,ch,e,hd,hR⟩:=h;injection e with e1 e2;subst e1 e2;refine L0 (Goal:=λg w1=>g=dj (c.raise ch) cs/\w1=w) (fr:={(base f).atR a k with mode:=.panicking ch}) rfl hd ?_ (bj ⟨rfl,rfl⟩) L λfr1 DJ w1 ⟨e,ew⟩=>by
  injection e with e1 e2;subst e1 e2 ew;exact h2 ch _ hR
 simp[Frame.catches,Frame.atR,base,hf]
theorem Kz{R:Ending->World->Prop}(hf:C.P.funcs[f]?=some fn)(h:∀cs,Rn C (AO f cs R) (ay2 C.P f args .normal) cs w):Cl C f args w R:=λL c cs _ h2=>h (c::cs) L λ_ _ _ q=>AO.on hf L h2 q
theorem sN{R:Ending->World->Prop}{t:Tmp}{d:TypeDesc}(hf:C.P.funcs[f]?=some fn)(TB:fn.results=#[.cell t ty])(hu:C.P.underlying ty=some d)(hd:d.isRow=true)(hi:(C.P.info? ty).map (·.size)=some n)
 (h:∀cs,Rn C (λg w'=>(∃(a:Act) (k:List Item) (bk:Nat) (cells:Array Value) (tt:TypeId),g=dj {(base f).atR a k with mode:=.returning} cs/\a.defers=[]/\a.tmps[t]?=some (.pk bk 0)/\w'.heap[bk]?=some (.cells cells tt)/\cells.size=n/\R (.returned (.agg cells)) w')\/AO f cs R g w') (ay2 C.P f args .normal) cs w):Cl C f args w R:=λL c cs h1 h2=>h (c::cs) L λfr cs' w' q=>by
 rcases q with⟨a,k,bk,cells,tt,e,Yk,h3,h4,h5,h7⟩|q
 .injection e with e1 e2;subst e1 e2;have hp:a.tmps[t]?.getD undef=.pk bk 0:=by rw[h3];rfl
  exact sR (Goal:=λg w1=>g=dj (c.finish (.agg cells)) cs/\w1=w') (fr:={(base f).atR a k with mode:=.returning}) (.agg cells) rfl rfl Yk hf (by show(results fn a.tmps).run C.P w'=_;simp[results,TB,hp,asAddr,s9 h4 h5 hu hd hi]) (iZ _ _) (bj ⟨rfl,rfl⟩) L λfr1 DJ w1 ⟨e,ew⟩=>by
   injection e with e1 e2;subst e1 e2 ew;exact h1 _ _ h7
 .exact AO.on hf L h2 q
end

end Go.Proofs.YtkmoglhgkcnalaaGreatDoor
namespace Go.Proofs.YtkmoglhgkcnalaaGreatDoor.L1
open Go Go.Conc Go.RowKit Go.Proofs.YtkmoglhgkcnalaaGreatDoor
theorem Mj(SS:o.op=.makeInterface 9 x)(hx:ev x=.string s):(execOp ev o).run prog w=.ok (.value (.iface 9 (.string s))) w:=by
 have e:execOp ev o=(do pure (.value (←aQ0 9 (.string s)))):=by simp only[execOp,SS,hx]
 have h2:(do pure (.value (←aQ0 9 (.string s))):Sem Next).run prog w=.ok (.value (.iface 9 (.string s))) w:=by kernel_rfl
 rw[e,h2]

def Q_(K:List Int):Prop:=K.length=16/\∀i (h:i<K.length),0<=K[i]/\K[i]<256
def zq(K:List Int)(n:Int):List Int:=(K.set (1+(K.getD 0 0).toNat%15) (aB3.wrap n)).set 0 (aB3.wrap (K.getD 0 0+1))
def nts(K ns:List Int):List Int:=ns.foldl zq K
theorem MQ{K:List Int}(h:Q_ K)(n:Int):Q_ (zq K n):=by
 refine⟨by simpa[zq]using h.1,λi hi=>?_⟩;have Tj:i<K.length:=by simpa[zq]using hi
 simp only[zq,aI8];split
 .rw[aD_];omega
 .split
  .rw[aD_];omega
  .exact h.2 i Tj
def i8(w:World)(cb:Nat)(fl:Value)(W K:List Int)(on:Bool)(sl:Int):Prop:=W.length=85/\Q_ K/\w.heap[cb]?=some (.cells (jm fl W K on sl) 149)
section
variable{fl:Value}{W K:List Int}{on:Bool}
theorem i8.to(h:i8 w cb fl W K on sl):HE w cb fl W on sl:=⟨h.1,K,h.2.1.1,h.2.1.2,h.2.2⟩
theorem i8.ex(h:i8 w cb fl W K on sl)(hx:Ex X w w')(hn:¬X cb):i8 w' cb fl W K on sl:=⟨h.1,h.2.1,hx.at hn h.2.2⟩
theorem i8.lt(h:i8 w cb fl W K on sl):cb<w.heap.size:=aA h.2.2
theorem uG(h:i8 w cb fl W K on sl):Cl kX 99 #[.pk cb 0] w λe w'=>e=.returned (.tuple #[])/\i8 w' cb fl W K false 0/\Ex (· =cb) w w'/\w'.heap.size=w.heap.size:=by
 obtain⟨hW,hK,hc⟩:=h;refine dk func99 rfl λcs=>?_;refine bv (N:=6) func99 NS λa J=>?_
 iterate 4 refine ao J λa J=>?_
 refine aP J (λo ho=>AY (on:=false) (sl:=0) ho (J.Q 5) (J.Q 3) hc (oo hW hK.1)) λa J=>?_;rw[B_ hW hK.1];exact oA J ⟨rfl,⟨hW,hK,aZ hc⟩,bC _ _ _,fm⟩
theorem Qo(n:Int)(h:i8 w cb fl W K on sl):Cl kX 182 #[.pk cb 0,.int .i64 n] w λe w'=>e=.returned (.tuple #[])/\i8 w' cb fl W K true n/\Ex (· =cb) w w'/\w'.heap.size=w.heap.size:=by
 obtain⟨hW,hK,hc⟩:=h;refine dk func182 rfl λcs=>?_;refine bv (N:=9) func182 O8 λa J=>?_
 iterate 5 refine ao J λa J=>?_
 refine aP J (λo ho=>AY (on:=true) (sl:=n) ho (J.Q 8) (J.Q 6) hc (oo hW hK.1)) λa J=>?_;rw[B_ hW hK.1];exact oA J ⟨rfl,⟨hW,hK,aZ hc⟩,bC _ _ _,fm⟩
theorem Qu(n:Int)(h:i8 w cb fl W K on sl):Cl kX 175 #[.pk cb 0,.int .u8 (aB3.wrap n)] w λe w'=>e=.returned (.tuple #[])/\i8 w' cb fl W (zq K n) on sl/\Ex (· =cb) w w'/\w'.heap.size=w.heap.size:=by
 obtain⟨hW,hK,hc⟩:=h;have hk:=hK.2;have hl:=hK.1;refine dk func175 rfl λcs=>?_;refine bv (N:=24) func175 Og λa J=>?_;obtain⟨c,W7,TN⟩:∃c:Nat,K[0]=(c:Int)/\c<256:=⟨(K[0]).toNat,by have:=hk 0 o_;omega,by have:=hk 0 o_;omega⟩;have hg:K.getD 0 0=(c:Int):=by rw[aw4,aw3 (by omega:0<K.length),W7];rfl
 have e0:=QK (fl:=fl) (on:=on) (sl:=sl) hW 0 (by omega:0<K.length);rw[W7]at e0;have SX:1+c%15<16:=by omega
 have w1:aB3.wrap (1+((c%15:Nat):Int))=((1+c%15:Nat):Int):=by rw[aD_];omega
 iterate 4 refine ao J λa J=>?_
 refine ai J (λo ho=>(av vo ho (J.Q 8) ((ar hc _).trans e0)).1) λa J=>?_
 iterate 3 refine ao J λa J=>?_
 refine ai J (λo ho=>IB (n:=15) ho (J.Q 11) rfl o_) λa J=>?_;refine ai J (λo ho=>Bo (m:=1) ho rfl (J.Q 12)) λa J=>?_;rw[w1]at J
 iterate 3 refine ao J λa J=>?_
 refine ai J (λo ho=>PS SX ho (J.Q 16) (J.Q 13)) λa J=>?_;refine aP J (λo ho=>cI (v:=.int .u8 (aB3.wrap n)) rfl rfl k_ ho (J.Q 17) (J.Q 14) hc (by rw[oo hW hl];omega)) λa J=>?_;rw[BZ hW _ o_];have Tn:=aZ (cs:=jm fl W (K.set (1+c%15) (aB3.wrap n)) on sl) (t:=149) hc
 iterate 2 refine ao J λa J=>?_
 refine ai J (λo ho=>Bo (n:=1) ho (J.Q 19) rfl) λa J=>?_
 iterate 3 refine ao J λa J=>?_
 refine aP J (λo ho=>cI (v:=.int .u8 (aB3.wrap (c+1))) rfl rfl k_ ho (J.Q 23) (J.Q 20) Tn (by rw[oo hW (by simpa using hl)];omega)) λa J=>?_;rw[show(86:Nat)=86+0 from rfl,BZ hW _ (by simp;omega),Bt];have e1:zq K n=(K.set (1+c%15) (aB3.wrap n)).set 0 (aB3.wrap (c+1)):=by unfold zq;rw[hg,aE3]
 rw[←e1];exact oA J ⟨rfl,⟨hW,MQ hK n,aZ hc⟩,bC _ _ _,fm⟩
def yq(cb rb:Nat)(fl:Value)(W K:List Int)(w:World)(e:Ending)(w':World):Prop:=∃(v:Value) (on:Bool) (sl room:Int),e=.panicked [{v:=v,recovered:=false}]/\i8 w' cb fl W K on sl/\w'.heap[rb]?=some (.cells (kz cb room true) 151)/\Ex (XR cb rb) w w'
theorem yq.from{rb:Nat}{e:Ending}(hx:Ex (XR cb rb) w0 w)(h:yq cb rb fl W K w e w'):yq cb rb fl W K w0 e w':=let ⟨v,on,sl,room,h1,h2,h3,h4⟩:=h;⟨v,on,sl,room,h1,h2,h3,hx.trans h4 λ_ _ e=>e⟩
def Ht(cb rb:Nat)(fl:Value)(W K:List Int)(room:Int)(v0:Value)(K':List Int)(on:Bool)(sl:Int)(w:World)(e:Ending)(w':World):Prop:=(∃v,e=.returned v/\(v=v0/\0<room/\i8 w' cb fl W K' on sl/\w'.heap[rb]?=some (.cells (kz cb (room- 1) false) 151)/\Ex (XR cb rb) w w'))\/∃ch,e=.panicked ch/\(room<=0/\yq cb rb fl W K w (.panicked ch) w')
variable{rb:Nat}{room:Int}
theorem BH(n:Int)(Vi:room<9223372036854775808)(h:i8 w cb fl W K on sl)(hb:w.heap[rb]?=some (.cells (kz cb room false) 151)):Cl kX 157 #[.pk rb 0,.int .i64 n] w (Ht cb rb fl W K room (.tuple #[]) (zq K n) on sl w):=by
 have T2:=Ar h.to hb;by_cases hr:0<room
 .refine dk func157 rfl λcs=>?_;refine bv (N:=27) func157 GT λa J=>?_
  iterate 5 refine ao J λa J=>?_
  refine a9 rfl (ak _ (J.Q 8) ?_);rw[decide_eq_false (by omega:¬room<=0)]
  iterate 7 refine ao J λa J=>?_
  refine aP J (λo ho=>cI (v:=.int .i64 (room- 1)) rfl rfl k_ ho (J.Q 19) (J.Q 17) hb (by decide:1<3)) λa J=>?_;rw[show(kz cb room false).setIfInBounds 1 (.int .i64 (room- 1))=kz cb (room- 1) false from rfl];have SZ:=aZ (cs:=kz cb (room- 1) false) (t:=151) hb;have x1:=bC (w:=w) rb (kz cb (room- 1) false) 151;have h1:=h.ex x1 T2;revert SZ x1 h1;generalize put w rb (kz cb (room- 1) false) 151=w1;intro SZ x1 h1
  iterate 5 refine ao J λa J=>?_
  refine ai J (λo ho=>jW ho (J.Q 24)) λa J=>?_;refine bz J func175 (Qu n h1) λw2 ⟨h2,x2,z2⟩ a J=>?_;exact oA J (.inl ⟨_,rfl,rfl,hr,h2,x2.at (aA3 T2) SZ,Ex.trans (X:=XR cb rb) (Ex.wide x1 λ_ _ e=>.inr e) x2 λb _ e=>.inl e⟩)
 .refine Kz func157 λcs=>?_;refine bv (N:=27) func157 GT λa J=>?_
  iterate 5 refine ao J λa J=>?_
  refine a9 rfl (ak _ (J.Q 8) ?_);rw[decide_eq_true (by omega:room<=0)]
  iterate 3 refine ao J λa J=>?_
  refine aP J (λo ho=>cI (v:=.bool true) rfl rfl k_ ho (J.Q 11) rfl hb (by decide:2<3)) λa J=>?_;rw[show(kz cb room false).setIfInBounds 2 (.bool true)=kz cb room true from rfl];have x1:=bC (w:=w) rb (kz cb room true) 151;refine ai (v:=.iface 9 (.string ⟨#[116,104,101,32,114,117,110,32,105,115,32,99,117,116]⟩)) J (λo ho=>Mj ho rfl) λa J=>?_;refine bK (P4 (d:=12) J rfl rfl rfl rfl (bj ⟨a,_,_,rfl,J.defers,.inr ⟨_,rfl,by omega,_,on,sl,room,rfl,h.ex x1 T2,aZ hb,Ex.wide x1 λ_ _ e=>.inr e⟩⟩))
theorem ED(n c:Int)(Vi:room<9223372036854775808)(h:i8 w cb fl W K on sl)(hb:w.heap[rb]?=some (.cells (kz cb room false) 151)):Cl kX 159 #[.pk rb 0,.int .i64 n,.int .i64 c] w (Ht cb rb fl W K room (.agg (bo 0 false 0 0 c)) (zq K n) on sl w):=by
 refine sN (t:=6) (ty:=100) (n:=5) func159 rfl (by exact underlying100) rfl iY λcs=>?_;refine bv (N:=12) func159 GR λa J=>?_;refine bA J (λo ho=>i2 ho) λw1 a b1 c1 z1 J=>?_;have hl:=h.lt;have VK:=aA hb;have h1:=h.ex (an (X:=λ_=>False) b1) (λe=>e)
 iterate 2 refine ao J λa J=>?_
 refine oB J func157 (BH n Vi h1 (bk b1 hb)) (λv w2 hv a J=>?_) λch w' hc=>bj (.inr ⟨a,_,ch,rfl,J.defers,.inr ⟨ch,rfl,hc.1,hc.2.from (an b1)⟩⟩);obtain⟨rfl,hr,h2,S_,x2⟩:=hv;have c2:=x2.at (by rintro(e|e)<;>omega) c1;refine ao J λa J=>?_;refine ai J (λo ho=>qN ho (J.Q 10)) λa J=>?_;refine aP J (λo ho=>dM ho (J.Q 6) (J.Q 11) c2 rfl) λa J=>?_;have x3:=bC (w:=w2) w.heap.size (bo 0 false 0 0 c) 100;refine dn 6 _ (aS rfl (.inr ⟨_,rfl⟩) (bj (.inl ⟨_,_,w.heap.size,_,_,rfl,J.defers,J.slot 6 _ rfl,aZ c2,rfl,.inl ⟨_,rfl,rfl,hr,h2.ex x3 o_,x3.at o_ S_,?_⟩⟩)));exact((an b1).trans x2 λb _ e=>e).trans x3 λb hb e=>by omega
theorem Qv(n c:Int)(Vi:room<9223372036854775808)(h:i8 w cb fl W K on sl)(hb:w.heap[rb]?=some (.cells (kz cb room false) 151)):Cl kX 161 #[.pk rb 0,.int .i64 n,.int .i64 c] w (Ht cb rb fl W K room (.agg (bo 0 true n c 0)) (zq K 9) true n w):=by
 refine sN (t:=6) (ty:=100) (n:=5) func161 rfl (by exact underlying100) rfl iY λcs=>?_;refine bv (N:=18) func161 GU λa J=>?_;refine bA J (λo ho=>i2 ho) λw1 a b1 c1 z1 J=>?_;have hl:=h.lt;have VK:=aA hb;have T2:=Ar h.to hb;have h1:=h.ex (an (X:=λ_=>False) b1) (λe=>e);have SZ:=bk b1 hb
 iterate 5 refine ao J λa J=>?_
 refine bz J func182 (Qo n h1) λw2 ⟨h2,x2,z2⟩ a J=>?_;have S_:=x2.at (aA3 T2) SZ;have c2:=x2.at o_ c1;refine ao J λa J=>?_;refine oB J func157 (BH 9 Vi h2 S_) (λv w3 hv a J=>?_) λch w' hc=>bj (.inr ⟨a,_,ch,rfl,J.defers,.inr ⟨ch,rfl,hc.1,hc.2.from ((an b1).trans x2 λb _ e=>.inl e)⟩⟩);obtain⟨rfl,hr,h3,Td,x3⟩:=hv;have c3:=x3.at (by rintro(e|e)<;>omega) c2
 iterate 2 refine ao J λa J=>?_
 refine ai J (λo ho=>Be ho rfl (J.Q 15) (J.Q 16)) λa J=>?_;refine aP J (λo ho=>dM ho (J.Q 6) (J.Q 17) c3 rfl) λa J=>?_;have x4:=bC (w:=w3) w.heap.size (bo 0 true n c 0) 100;refine dn 6 _ (aS rfl (.inr ⟨_,rfl⟩) (bj (.inl ⟨_,_,w.heap.size,_,_,rfl,J.defers,J.slot 6 _ rfl,aZ c3,rfl,.inl ⟨_,rfl,rfl,hr,h3.ex x4 o_,x4.at o_ Td,?_⟩⟩)));exact(((an b1).trans x2 λb _ e=>.inl e).trans x3 λb _ e=>e).trans x4 λb hb e=>by omega
end

theorem Om:f105.body=some (.seq (rG f105 0) (.seq (.seq (rG f105 1) (.cond (.tmp 4) (.seq (rG f105 2) .ret) .skip)) (.seq (rG f105 3) .ret))):=by kernel_rfl
theorem Oi:f84.body=some (.seq (rG f84 0) (.seq (rG f84 1) .ret)):=by kernel_rfl
theorem NO:f85.body=some (.seq (rG f85 0) (.seq (rG f85 1) .ret)):=by kernel_rfl
theorem KI:f59.body=some (.seq (rG f59 0) (.seq (rG f59 1) .ret)):=by kernel_rfl
theorem KG:f60.body=some (.seq (rG f60 0) (.seq (rG f60 1) .ret)):=by kernel_rfl
theorem Oe:f86.body=some (.seq (rG f86 0) (.seq (rG f86 1) .ret)):=by kernel_rfl
theorem KH:f63.body=some (.seq (rG f63 0) (.seq (rG f63 1) .ret)):=by kernel_rfl
def Pd(W:List Int)(w:World)(e:Ending)(w':World):Prop:=∃v,e=.returned v/\(w'.ownsRow w.heap.size 3 1 v 85 (aO W)/\Bw w w')
section
variable{fl:Value}{W K:List Int}{on:Bool}
theorem Am{off:Nat}(hW:W.length=85)(hr:w.rangeAt gb off (W.map (Value.int .i64))):Cl kX 105 #[.slice (some ⟨gb,off,none⟩) 85 85] w (Pd W w):=by
 refine az (N:=8) func105 Om λcs a J=>?_
 iterate 2 refine ao J λa J=>?_
 refine ai J (λo ho=>J6 ho (J.Q 3) rfl) λa J=>?_;refine a9 rfl (ak _ (J.Q 4) ?_);refine bA J (λo ho=>MD ho) λw1 a b1 c1 z1 J=>?_;have ho:w1.ownsRow w.heap.size 3 1 (.sk w.heap.size 0 0) 0 []:=⟨rfl,.inr ⟨w.heap.size,0,_,rfl,aw0 _,c1,aw0 _,by unfold maxLen;omega,rfl,rfl⟩⟩;refine ao J λa J=>?_;refine dX J (λo SS=>lN (t:=24) (z:=.int .i64 0) (bytes:=8) (m:=85) (news:=aO W) k_ k_ rfl ho (λj u hu=>by rw[az3];exact aU b1 (hr j u hu)) (j5 W) (by simp[aO,hW]) (J.Q 5) (J.Q 6) (by unfold maxLen;omega) o_ b1.size o SS) λv2 w2 ⟨ho2,b2,_⟩ a J=>?_;refine ao J λa J=>?_;exact aH J ⟨_,rfl,ho2,b1.trans b2⟩
theorem LP(h:i8 w cb fl W K on sl):Cl kX 85 #[.pk cb 0] w (Pd W w):=by
 refine az (N:=8) func85 NO λcs a J=>?_
 iterate 4 refine ao J λa J=>?_
 refine ai J (λo ho=>uV ho (J.Q 5)) λa J=>?_;refine bp J func105 (Am h.1 (xT h.to)) λv w1 hv a J=>?_;refine ao J λa J=>?_;exact aH J ⟨_,rfl,hv⟩
def LY(K:List Int):ByteArray:=⟨(K.map λx=>aE1 x.toNat).toArray⟩
theorem Qt(h:i8 w cb fl W K on sl):Cl kX 86 #[.pk cb 0] w λe w'=>e=.returned (.string (LY K))/\w'=w:=by
 obtain⟨hW,hK,hc⟩:=h;refine az (N:=8) func86 Oe λcs a J=>?_
 iterate 4 refine ao J λa J=>?_
 refine ai J (λo ho=>Bl ho (J.Q 5)) λa J=>?_;have hl:(K.map λx=>aE1 x.toNat).length=16:=by simpa using hK.1
 rw[show aR0 (some ⟨cb,86,none⟩) 16 16=.slice (some ⟨cb,86,none⟩) (K.map λx=>aE1 x.toNat).length 16 from by rw[hl]]at J;refine ai J (λo ho=>nC ho (J.Q 6) λj hj=>?_) λa J=>?_
 .have Ux:j<K.length:=by simpa using hj
  rw[ar hc,QK hW j Ux,aM6];have:=hK.2 j Ux
  congr 2
  rw[aO_];omega
 refine ao J λa J=>?_;exact aH J ⟨rfl,rfl⟩
variable(Z9:w.heap[lb]?=some (.cells #[.pk cb 0] 127))
include Z9
theorem AV(h:i8 w cb fl W K on sl):Cl kX 60 #[.pk lb 0] w (Pd W w):=by
 refine az (N:=8) func60 KG λcs a J=>?_
 iterate 5 refine ao J λa J=>?_
 refine bp J func85 (LP h) λv w1 hv a J=>?_;refine ao J λa J=>?_;exact aH J ⟨_,rfl,hv⟩
theorem Nh(h:i8 w cb fl W K on sl):Cl kX 63 #[.pk lb 0] w λe w'=>e=.returned (.string (LY K))/\w'=w:=by
 refine az (N:=8) func63 KH λcs a J=>?_
 iterate 5 refine ao J λa J=>?_
 refine bz J func86 (Qt h) λw1 hw a J=>?_;refine ao J λa J=>?_;exact aH J ⟨rfl,hw⟩
end

def j7(w:World)(fl:Value)(L:ByteArray):Prop:=L.size<4611686018427387904/\∃fb cap cells fr,fl=.sk fb L.size cap/\L.size<=cap/\w.heap[fb]?=some (.cells cells 5 fr)/\L.size<=fr.1/\∀j (h:j<L.data.toList.length),cells[j]?=some (.int .u8 (L.data.toList[j].toNat:Int))
theorem j7.keep{fl:Value}(h:j7 w fl L)(hx:Ex X w w')(hn:∀b cs fr,w.heap[b]?=some (.cells cs 5 fr)->¬X b):j7 w' fl L:=by
 obtain⟨h0,fb,cap,cells,fr,h1,h2,h3,h4⟩:=h;exact⟨h0,fb,cap,cells,fr,h1,h2,hx.at (hn _ _ _ h3) h3,h4⟩
section
variable{u:TypeId}
theorem Bm{len cap:Nat}(SS:o.op=.slice 83 x (some y) (some z) none)(hx:ev x=.sk g len cap)(hy:ev y=.int .i64 n)(hz:ev z=.int .i64 n)(h:n<=cap):(execOp ev o).run prog w=.ok (.value (.slice (some ⟨g,if cap=n then 0 else n,none⟩) ([]:List UInt8).length (cap- n))) w:=by
 have hu:prog.underlying 83=some (.slice 5):=by kernel_rfl
 have Wq:(sizeOf 5).run prog w=.ok 1 w:=by kernel_rfl
 have e0:(⟨g,0,none⟩:Addr).add n=⟨g,n,none⟩:=by rw[az3,aw9]
 by_cases h2:cap=n
 .simp[execOp,SS,hx,hy,hz,az5,aD8,ay6,run_underlying hu,ay8,asIntOf,Wq,h2]
 .simp[execOp,SS,hx,hy,hz,az5,aD8,ay6,run_underlying hu,ay8,asIntOf,h,Wq,h2,e0]
end
section
variable{rb:Nat}{fl:Value}{W K:List Int}{on:Bool}{room:Int}
theorem NJ(k:Nat)(hk:k<2)(h:i8 w cb fl W K on sl)(hf:j7 w fl L):Cl kX 160 #[.pk cb 0,.int .i64 k] w λe w'=>e=.returned (.string (L.extract (k*8192) (k*8192+8192)))/\w'=w:=by
 obtain⟨h62,fb,cap,cells,fr,rfl,TX,XY,_,TN⟩:=hf;obtain⟨hW,hK,hc⟩:=h;refine az (N:=31) func160 Oo λcs a J=>?_
 iterate 2 refine ao J λa J=>?_
 refine ai J (λo ho=>iX (n:=8192) ho (J.Q 7) rfl o_) λa J=>?_
 iterate 5 refine ao J λa J=>?_
 refine sP J (v:=.int .i64 ((min (k*8192) L.size:Nat):Int)) (hy:=by intro o ho;exact oZ ho (J.Q 8) (J.Q 13) o_) λa J=>?_
 iterate 2 refine ao J λa J=>?_
 refine ai J (λo ho=>aN (n:=8192) ho (J.Q 15) rfl o_) λa J=>?_
 iterate 5 refine ao J λa J=>?_
 refine sP J (v:=.int .i64 ((min (min (k*8192) L.size+8192) L.size:Nat):Int)) (hy:=by intro o ho;exact oZ ho (J.Q 16) (J.Q 21) o_) λa J=>?_;have hLl:L.data.toList.length=L.size:=by rw[ax1];rfl
 have ecut:L.extract (k*8192) (k*8192+8192)=⟨(bV L.data.toList (min (k*8192) L.size) (min (min (k*8192) L.size+8192) L.size)).toArray⟩:=by
  rw[eB]
  congr 2
  unfold bV;by_cases h1:L.size<=k*8192
  .rw[aK6 h1,aC6 (by rw[aC2];omega),aC6 (by rw[aC2];omega)]
  .rw[aE9 (by omega:k*8192<=L.size)];by_cases h2:L.size<=k*8192+8192
   .rw[aK6 h2,ay5 o_,ay5 o_]
   .rw[aE9 o_]
 rw[ecut];generalize hm:min (k*8192) L.size=m at J;generalize hn:min (m+8192) L.size=n at J
 iterate 7 refine ao J λa J=>?_
 have hl:(bV L.data.toList m n).length=n- m:=fA _ _ _ o_;by_cases hmn:m=n
 .subst hmn;have e0:bV L.data.toList m m=[]:=aF4 o_;refine ai J (λo ho=>Bm (cap:=cap) ho (J.Q 26) (J.Q 27) (J.Q 28) o_) λa J=>?_;refine ai J (λo ho=>nC ho (J.Q 29) λj hj=>by simp at hj) λa J=>?_;rw[e0];refine ao J λa J=>?_;exact aH J ⟨rfl,rfl⟩
 .refine ai J (λo ho=>Bj ho (J.Q 26) (J.Q 27) (J.Q 28) o_ o_) λa J=>?_;rw[←hl]at J;refine ai J (λo ho=>nC ho (J.Q 29) λj hj=>?_) λa J=>?_
  .have e:(bV L.data.toList m n)[j]=L.data.toList[m+j]' o_:=(by simp[bV]);rw[e,show w.cell? ⟨fb,m+j,none⟩=cells[m+j]? from by simp[ay_,XY]];exact TN _ o_
  refine ao J λa J=>?_;exact aH J ⟨rfl,rfl⟩
theorem Nq(h:i8 w cb fl W K on sl)(hf:j7 w fl L):Cl kX 84 #[.pk cb 0] w λe w'=>e=.returned (.string L)/\w'=w:=by
 obtain⟨_,fb,cap,cells,fr,rfl,TX,XY,_,TN⟩:=hf;obtain⟨hW,hK,hc⟩:=h;refine az (N:=8) func84 Oi λcs a J=>?_
 iterate 5 refine ao J λa J=>?_
 rw[show Value.sk fb L.size cap=.sk fb L.data.toList.length cap from by rw[ax1];rfl]at J;refine ai J (λo ho=>rI ho (J.Q 6) λj hj=>?_) λa J=>?_
 .rw[show w.cell? ⟨fb,j,none⟩=cells[j]? from by simp[ay_,XY]];exact TN j hj
 refine ao J λa J=>?_;exact aH J ⟨rfl,rfl⟩
theorem JZ(Z9:w.heap[lb]?=some (.cells #[.pk cb 0] 127))(h:i8 w cb fl W K on sl)(hf:j7 w fl L):Cl kX 59 #[.pk lb 0] w λe w'=>e=.returned (.string L)/\w'=w:=by
 refine az (N:=8) func59 KI λcs a J=>?_
 iterate 5 refine ao J λa J=>?_
 refine bz J func84 (Nq h hf) λw1 hw a J=>?_;refine ao J λa J=>?_;exact aH J ⟨rfl,hw⟩
end
def eU(KS W:List Int)(L:ByteArray)(ns:List Int)(j:Bool)(s n c:Int):Prop:=∃st le cr us hs,P8 W st le cr us hs/\
 ((cr≠0/\ns=[1,2]/\j=false/\s=0/\n=0/\c=1)\/(cr=0/\st≠255/\st≠3855/\ns=[1,3]/\j=false/\s=0/\n=0/\c=2)\/
  (cr=0/\(st=255\/st=3855)/\∃n0 c0,lQ KS (L.extract 0 8192) le us hs n0 c0/\((c0=0/\ns=[1,16,9]/\j=true/\s=0/\n=n0/\c=0)\/
    (c0≠0/\∃n1 c1,lQ KS (L.extract 8192 16384) le us hs n1 c1/\((c1=0/\ns=[1,16+c0,32,9]/\j=true/\s=1/\n=n1/\c=0)\/(c1≠0/\ns=[1,16+c0,32+c1,4]/\j=false/\s=0/\n=0/\c=max c0 c1))))))
theorem Fv{W:List Int}{st le le' c':Int}{us us':List Bool}{hs Uu:List ByteArray}(h:P8 W st le c us hs)(h':P8 W st' le' c' us' Uu):c=c'/\(c=0->st=st'/\le=le'/\us=us'/\hs=Uu):=by
 rcases h with⟨e,rfl,rfl,rfl,rfl,rfl⟩|⟨e,rfl⟩<;>rcases h' with⟨e',rfl,rfl,rfl,rfl,rfl⟩|⟨e',rfl⟩
 .exact⟨rfl,λ_=>⟨rfl,rfl,rfl,rfl⟩⟩
 .rw[e]at e';cases e'
 .rw[e]at e';cases e'
 .exact⟨rfl,λh=>absurd h d_⟩
theorem yE(KS W:List Int)(L:ByteArray):∃ns j s n c,eU KS W L ns j s n c:=by
 cases hk:mE W with
 |false=>exact⟨_,_,_,_,_,0,0,1,[],[],.inr ⟨hk,rfl⟩,.inl ⟨by decide,rfl,rfl,rfl,rfl,rfl⟩⟩
 |true=>
  have hP:P8 W _ _ _ _ _:=.inl ⟨hk,rfl,rfl,rfl,rfl,rfl⟩;by_cases h1:W.getD 0 0=255\/W.getD 0 0=3855
  .obtain⟨n0,c0,h2⟩:=lJ KS (L.extract 0 8192) (pM (oT W)) (yK W) (Gf W);by_cases h3:c0=0
   .exact⟨_,_,_,_,_,_,_,_,_,_,hP,.inr (.inr ⟨rfl,h1,n0,c0,h2,.inl ⟨h3,rfl,rfl,rfl,rfl,rfl⟩⟩)⟩
   .obtain⟨n1,c1,h4⟩:=lJ KS (L.extract 8192 16384) (pM (oT W)) (yK W) (Gf W);by_cases h5:c1=0
    .exact⟨_,_,_,_,_,_,_,_,_,_,hP,.inr (.inr ⟨rfl,h1,n0,c0,h2,.inr ⟨h3,n1,c1,h4,.inl ⟨h5,rfl,rfl,rfl,rfl,rfl⟩⟩⟩)⟩
    .exact⟨_,_,_,_,_,_,_,_,_,_,hP,.inr (.inr ⟨rfl,h1,n0,c0,h2,.inr ⟨h3,n1,c1,h4,.inr ⟨h5,rfl,rfl,rfl,rfl,rfl⟩⟩⟩)⟩
  .exact⟨_,_,_,_,_,_,_,_,_,_,hP,.inr (.inl ⟨rfl,λe=>h1 (.inl e),λe=>h1 (.inr e),rfl,rfl,rfl,rfl,rfl⟩)⟩
structure Nt (ns K0:List Int) (room:Int) (k:Nat) (K:List Int) (r:Int):Prop where
 kept:K=nts K0 (ns.take k)
 left:r=room- k
 few:k<=room.toNat
section
variable{K0 K:List Int}{room r n:Int}
theorem Nt.start:Nt ns K room 0 K room:=⟨by simp[nts],by omega,by omega⟩
theorem Nt.next(h:Nt ns K0 room k K r)(hr:0<r)(hn:ns[k]?=some n):Nt ns K0 room (k+1) (zq K n) (r- 1):=by
 have h1:=h.left;refine⟨?_,by omega,by omega⟩;rw[h.kept,aR1,hn];simp[nts]
theorem Nt.cut(h:Nt ns K0 room k K r)(hr:r<=0)(hn:ns[k]?=some n):K=nts K0 (ns.take room.toNat)/\room<ns.length:=by
 have h1:=h.left;have h2:=h.few;have h3:=(aw5.1 hn).1;have h4:k=room.toNat:=by omega
 exact⟨h4▸h.kept,by omega⟩
theorem Nt.all(h:Nt ns K0 room k K r)(hk:ns.length=k):K=nts K0 ns/\(ns.length:Int)<=room\/ns=[]:=by
 have h2:=h.few;by_cases h0:k=0
 .right;exact aF4 o_
 .left;refine⟨?_,by omega⟩;rw[h.kept,←hk,List.take_length]
end

section
variable{u v t:Operand}
theorem uT(SS:o.op=.build 87 #[]):(execOp ev o).run prog w=.ok (.value (.agg ic.toArray)) w:=by
 have e:execOp ev o=(do pure (.value (←ax9 87 #[]))):=by simp[execOp,SS]
 have h2:(do pure (.value (←ax9 87 #[])):Sem Next).run prog w=.ok (.value (.agg ic.toArray)) w:=by kernel_rfl
 rw[e,h2]
theorem Mv{a b d e:Int}{k:ByteArray}(SS:o.op=.build 87 #[(0,x),(1,y),(2,z),(3,u),(4,v),(5,t)])(h0:ev x=.int .i64 a)(h1:ev y=.int .i64 b)(h2:ev z=.int .i64 c)(h3:ev u=.int .i64 d)(h4:ev v=.int .i64 e)(h5:ev t=.string k):(execOp ev o).run prog w=.ok (.value (.agg #[.int .i64 a,.int .i64 b,.int .i64 c,.int .i64 d,.int .i64 e,.string k])) w:=by
 have e1:execOp ev o=(do pure (.value (←ax9 87 #[(0,.int .i64 a),(1,.int .i64 b),(2,.int .i64 c),(3,.int .i64 d),(4,.int .i64 e),(5,.string k)]))):=by simp[execOp,SS,h0,h1,h2,h3,h4,h5]
 have h6:(do pure (.value (←ax9 87 #[(0,.int .i64 a),(1,.int .i64 b),(2,.int .i64 c),(3,.int .i64 d),(4,.int .i64 e),(5,.string k)])):Sem Next).run prog w=.ok (.value (.agg #[.int .i64 a,.int .i64 b,.int .i64 c,.int .i64 d,.int .i64 e,.string k])) w:=by kernel_rfl
 rw[e1,h6]
theorem IC{m:Int}{t:TypeId}(SS:o.op=.binOp .rem 3 x y t)(hx:ev x=.int .i64 m)(hy:ev y=.int .i64 4)(h0:0<=m):(execOp ev o).run prog w=.ok (.value (.int .i64 (m%4))) w:=by
 have:m.tmod 4=m%4:=Int.tmod_eq_emod_of_nonneg h0;simp[execOp,SS,hx,hy,go_sem,this]
theorem Mr{cs:List Value}(SS:o.op=.load 87 x)(hx:ev x=.pk b 0)(h:w.heap[b]?=some (.cells cs.toArray tt))(hl:cs.length=6):(execOp ev o).run prog w=.ok (.value (.agg cs.toArray)) w:=by
 have hr:w.rangeAt b 0 cs:=λj v hj=>by rw[aw9,ar h];simpa using hj
 have hd:=run_loadVar_mid (P:=prog) w b 0 87 cs _ hr (by exact underlying87) rfl (by rw[jI,hl]);simp[execOp,SS,hx,ay9,Instr.sureAddr,hd]
end
theorem QP:f41.body=some (.seq (rG f41 0) (.seq (.seq (rG f41 1) (.cond (.tmp 7) (.seq (rG f41 2) .ret) .skip)) (.seq (.seq (rG f41 3) (.cond (.tmp 11) (.seq (rG f41 4) .ret) .skip)) (.seq (rD f41 5) (.seq (.seq (rG f41 6) (.cond (.tmp 48) (.seq (rG f41 7) .ret) .skip)) (.seq (.seq (rG f41 8) (.cond (.tmp 65) (.seq (rG f41 9) .ret) .skip)) (.seq (rG f41 10) .ret))))))):=by kernel_rfl
section
variable{v2:Value}{v sg en at_ l:Int}{k:List UInt8}
theorem Lv(h4:w.heap[b4]?=some (.cells (oX v sg en at_ l k).toArray 87))(hq: -9223372036854775808<=at_+l/\at_+l<=9223372036854775807)(J:aB [(2,v2),(4,.pk b4 0)] 68 [] a)
 (next:∀a,aB [(48,.bool (decide (sg<78\/8192<sg\/at_<sg\/8192<at_+l))),(2,v2),(4,.pk b4 0)] 68 [] a->Rn kX Goal (fr.atR a K) cs w):Rn kX Goal (fr.atR a (.code (rG f41 6)::K)) cs w:=by
 iterate 4 refine ab J λa J=>?_
 by_cases c1:sg<78
 .rw[decide_eq_true c1]at J
  iterate 3 refine bY J λa J=>?_
  refine ai J (λo ho=>fN ho (J.Q 29) rfl) λa J=>?_;refine ab J λa J=>?_
  iterate 5 refine bY J λa J=>?_
  refine ai J (λo ho=>fN ho (J.Q 34) rfl) λa J=>?_;refine ab J λa J=>?_
  iterate 6 refine bY J λa J=>?_
  refine ai J (λo ho=>fN ho (J.Q 41) rfl) λa J=>?_;exact a9 rfl (next a (J.only ⟨by show some (Value.bool true)=_;simp[c1],rfl,rfl,trivial⟩))
 rw[decide_eq_false c1]at J
 iterate 3 refine ab J λa J=>?_
 by_cases c2:sg>8192
 .rw[decide_eq_true c2]at J;refine ai J (λo ho=>gk ho (J.Q 29) (J.Q 32)) λa J=>?_;refine ab J λa J=>?_
  iterate 5 refine bY J λa J=>?_
  refine ai J (λo ho=>fN ho (J.Q 34) rfl) λa J=>?_;refine ab J λa J=>?_
  iterate 6 refine bY J λa J=>?_
  refine ai J (λo ho=>fN ho (J.Q 41) rfl) λa J=>?_;exact a9 rfl (next a (J.only ⟨by show some (Value.bool true)=_;simp[show 8192<sg from c2],rfl,rfl,trivial⟩))
 rw[decide_eq_false c2]at J;refine ai J (λo ho=>gk ho (J.Q 29) (J.Q 32)) λa J=>?_
 iterate 6 refine ab J λa J=>?_
 by_cases c3:at_<sg
 .rw[decide_eq_true c3]at J;refine ai J (λo ho=>gk ho (J.Q 34) (J.Q 39)) λa J=>?_;refine ab J λa J=>?_
  iterate 6 refine bY J λa J=>?_
  refine ai J (λo ho=>fN ho (J.Q 41) rfl) λa J=>?_;exact a9 rfl (next a (J.only ⟨by show some (Value.bool true)=_;simp[c3],rfl,rfl,trivial⟩))
 rw[decide_eq_false c3]at J;refine ai J (λo ho=>gk ho (J.Q 34) (J.Q 39)) λa J=>?_
 iterate 7 refine ab J λa J=>?_
 refine ai J (λo ho=>gk ho (J.Q 41) (J.Q 47)) λa J=>?_;exact a9 rfl (next a (J.only ⟨by show some (Value.bool (decide (at_+l>8192)))=_;simp[c1,show¬8192<sg from c2,c3],rfl,rfl,trivial⟩))
theorem Dn(h4:w.heap[b4]?=some (.cells (oX v sg en at_ l k).toArray 87))(hq:0<=en)(J:aB [(2,v2),(4,.pk b4 0)] 68 [] a)
 (next:∀a,aB [(65,.bool (decide (en%4≠0\/en<78\/sg<=en))),(2,v2),(4,.pk b4 0)] 68 [] a->Rn kX Goal (fr.atR a K) cs w):Rn kX Goal (fr.atR a (.code (rG f41 8)::K)) cs w:=by
 iterate 2 refine ab J λa J=>?_
 refine ai J (λo ho=>IC ho (J.Q 51) rfl hq) λa J=>?_
 iterate 2 refine ab J λa J=>?_
 by_cases c1:en%4≠0
 .rw[show(en%4 !=0)=true from by simpa using c1]at J
  iterate 3 refine bY J λa J=>?_
  refine ai J (λo ho=>fN ho (J.Q 54) rfl) λa J=>?_;refine ab J λa J=>?_
  iterate 5 refine bY J λa J=>?_
  refine ai J (λo ho=>fN ho (J.Q 59) rfl) λa J=>?_;exact a9 rfl (next a (J.only ⟨by show some (Value.bool true)=_;simp[c1],rfl,rfl,trivial⟩))
 rw[show(en%4 !=0)=false from by simpa using c1]at J
 iterate 3 refine ab J λa J=>?_
 by_cases c2:en<78
 .rw[decide_eq_true c2]at J;refine ai J (λo ho=>gk ho (J.Q 54) (J.Q 57)) λa J=>?_;refine ab J λa J=>?_
  iterate 5 refine bY J λa J=>?_
  refine ai J (λo ho=>fN ho (J.Q 59) rfl) λa J=>?_;exact a9 rfl (next a (J.only ⟨by show some (Value.bool true)=_;simp[c2],rfl,rfl,trivial⟩))
 rw[decide_eq_false c2]at J;refine ai J (λo ho=>gk ho (J.Q 54) (J.Q 57)) λa J=>?_
 iterate 6 refine ab J λa J=>?_
 refine ai J (λo ho=>gk ho (J.Q 59) (J.Q 64)) λa J=>?_;exact a9 rfl (next a (J.only ⟨by show some (Value.bool (decide (en≥sg)))=_;simp[c1,c2],rfl,rfl,trivial⟩))
end
theorem wY(s:ByteArray)(w:World)(hs:s.size<=281474976000000):
 Cl kX 41 #[.string s] w λe w'=>e=.returned (.tuple #[.agg (iR s.data.toList).1.toArray,.int .i64 (iR s.data.toList).2])/\Bw w w':=by
 have Uq:s.data.toList.length=s.size:=by rw[ax1];rfl
 refine fS (t:=2) (u:=3) (ty:=87) (n:=6) func41 rfl (by exact underlying87) rfl jI λcs=>?_;refine bv (N:=68) func41 QP λa J=>?_;refine bA J (λo ho=>qQ ho) λw1 a hold hN Tf J=>?_
 iterate 4 refine ab J λa J=>?_
 refine a9 rfl (ak _ (J.get (d:=7) rfl) ?_);by_cases h1:s.size<8192
 .rw[decide_eq_true o_,show iR s.data.toList=(ic,3) by rw[iR,if_pos (by rw[Uq];exact h1)]];refine ai J (λo ho=>uT ho) λa J=>?_;refine aP J (λo ho=>aQ ho (J.get (d:=2) rfl) (J.get (d:=8) rfl) hN jI rfl (by simp[ic,oX,ax4])) λa J=>?_;refine ab J λa J=>?_;exact a9 rfl (aS rfl (.inr ⟨_,rfl⟩) (bj ⟨a,_,_,_,_,_,rfl,J.defers,J.slot 2 _ rfl,setRow_heap _ _ _ _ _ _ hN,rfl,J.slot 3 _ rfl,rfl,hold.trans (a_ _ _ _ (aw0 _))⟩))
 rw[decide_eq_false o_];refine ab J λa J=>?_;refine ai J (λo ho=>lX (n:=4) ho (J.get (d:=9) rfl) rfl o_) λa J=>?_;refine ai J (λo ho=>lW ho (J.get (d:=10) rfl) rfl) λa J=>?_;refine a9 rfl (ak _ (J.get (d:=11) rfl) ?_);by_cases h2:s.data.toList.take 4≠[76,78,84,76]
 .rw[show((s.extract 0 4).data.toList !=[76,78,84,76])=true by rw[eB];simpa[bV]using h2,show iR s.data.toList=(ic,4) by rw[iR,if_neg (by rw[Uq];exact h1),if_pos h2]];refine ai J (λo ho=>uT ho) λa J=>?_;refine aP J (λo ho=>aQ ho (J.get (d:=2) rfl) (J.get (d:=12) rfl) hN jI rfl (by simp[ic,oX,ax4])) λa J=>?_;refine ab J λa J=>?_;exact a9 rfl (aS rfl (.inr ⟨_,rfl⟩) (bj ⟨a,_,_,_,_,_,rfl,J.defers,J.slot 2 _ rfl,setRow_heap _ _ _ _ _ _ hN,rfl,J.slot 3 _ rfl,rfl,hold.trans (a_ _ _ _ (aw0 _))⟩))
 rw[show((s.extract 0 4).data.toList !=[76,78,84,76])=false by rw[eB];simpa[bV]using h2,iR,if_neg (by rw[Uq];exact h1),if_neg h2];have nn:∀a n b w,n<=4->b<=8192->b=a+n->Cl kX 37 #[.string s,.int .i64 (a:Nat),.int .i64 (n:Nat)] w λe w'=>e=.returned (.int .i64 (c_ (bV s.data.toList a b)))/\Bw w w':=λa n b w h1 h2 h3=>(jY s a n w h1 o_ o_).mono λ_ _ h=>⟨h3▸h.1,h.2▸aw8 _ _⟩;have hb:∀a b,b<=8192->b- a<=4->0<=c_ (bV s.data.toList a b)/\c_ (bV s.data.toList a b)<4294967296:=λa b h h'=>iB _ 4 (by rw[fA s.data.toList a b (by rw[Uq];omega)];exact h');have q3:=hb 10 14 o_ o_;have q4:=hb 14 18 o_ o_;have q5:=hb 18 22 o_ o_;refine a9 rfl (a9 rfl (ie 14 (J.only (G:=[(0,.string s),(2,.pk w.heap.size 0)]) ⟨rfl,rfl,trivial⟩) ?_));refine aj ?_;refine cy func37 (λw _ _=>nn 4 2 6 w d_ d_ rfl) ?_;refine aj ?_;refine cy func37 (λw _ _=>nn 6 4 10 w d_ d_ rfl) ?_;refine aj ?_;refine cy func37 (λw _ _=>nn 10 4 14 w d_ d_ rfl) ?_;refine aj ?_;refine cy func37 (λw _ _=>nn 14 4 18 w d_ d_ rfl) ?_;refine aj ?_;refine cy func37 (λw _ _=>nn 18 4 22 w d_ d_ rfl) ?_;refine aj ?_;refine aj ?_ (y:=λo a w ho z=>(eE (m:=22) (n:=78) ho gx rfl rfl o_ o_).1);refine aj ?_ (y:=λo a w ho z=>Mv ho gx gx gx gx gx gx);refine oD [] (V:=λb=>.pk b 0) (λu=>oE λa w2 J S_ hM rest hgo=>?_) (y:=λo a w ho _=>qQ ho);obtain⟨b4,rfl,Tk,h4⟩:=hM.1 rfl;rw[eB s 22 78]at J;refine aP J (λo ho=>aQ ho (J.get (d:=4) rfl) (J.get (d:=25) rfl) h4 jI rfl (by simp[ax4])) λa J=>hgo _ _ ?_;have hN:=λC=>(setRow_other w2 b4 w.heap.size C o_).trans (bk S_ hN);have hold:=λC=>(ae hold o_ S_).trans (a_ w2 b4 C (show w.heap.size<=b4 by omega));have h4:=λC=>setRow_heap w2 b4 _ C _ _ h4;refine a9 rfl (a9 rfl (Lv (h4 _) o_ (J.only ⟨rfl,rfl,trivial⟩) λa J=>?_));refine ak _ (J.get (d:=48) rfl) ?_;by_cases c:c_ (bV s.data.toList 6 10)<78\/8192<c_ (bV s.data.toList 6 10)\/c_ (bV s.data.toList 14 18)<c_ (bV s.data.toList 6 10)\/8192<c_ (bV s.data.toList 14 18)+c_ (bV s.data.toList 18 22)
 .rw[decide_eq_true c,zU,if_pos c];refine ai J (λo ho=>uT ho) λa J=>?_;refine aP J (λo ho=>aQ ho (J.get (d:=2) rfl) (J.get (d:=49) rfl) (hN _) jI rfl (by simp[ic,oX,ax4])) λa J=>?_;refine ab J λa J=>?_;exact a9 rfl (aS rfl (.inr ⟨_,rfl⟩) (bj ⟨a,_,_,_,_,_,rfl,J.defers,J.slot 2 _ rfl,setRow_heap _ _ _ _ _ _ (hN _),rfl,J.slot 3 _ rfl,rfl,(hold _).trans (a_ _ _ _ (aw0 _))⟩))
 rw[decide_eq_false c,zU,if_neg c];refine a9 rfl (a9 rfl (a9 rfl (Dn (h4 _) q3.1 (J.only ⟨rfl,rfl,trivial⟩) λa J=>?_)));refine ak _ (J.get (d:=65) rfl) ?_;by_cases c:c_ (bV s.data.toList 10 14)%4≠0\/c_ (bV s.data.toList 10 14)<78\/c_ (bV s.data.toList 6 10)<=c_ (bV s.data.toList 10 14)
 .rw[decide_eq_true c,if_pos c];refine ai J (λo ho=>uT ho) λa J=>?_;refine aP J (λo ho=>aQ ho (J.get (d:=2) rfl) (J.get (d:=66) rfl) (hN _) jI rfl (by simp[ic,oX,ax4])) λa J=>?_;refine ab J λa J=>?_;exact a9 rfl (aS rfl (.inr ⟨_,rfl⟩) (bj ⟨a,_,_,_,_,_,rfl,J.defers,J.slot 2 _ rfl,setRow_heap _ _ _ _ _ _ (hN _),rfl,J.slot 3 _ rfl,rfl,(hold _).trans (a_ _ _ _ (aw0 _))⟩))
 rw[decide_eq_false c,if_neg c];refine ai J (λo ho=>Mr ho (J.get (d:=4) rfl) (h4 _) rfl) λa J=>?_;refine aP J (λo ho=>aQ ho (J.get (d:=2) rfl) (J.get (d:=67) rfl) (hN _) jI rfl (by simp[ax4])) λa J=>?_;refine ab J λa J=>?_;exact a9 rfl (aS rfl (.inr ⟨_,rfl⟩) (bj ⟨a,_,_,_,_,_,rfl,J.defers,J.slot 2 _ rfl,setRow_heap _ _ _ _ _ _ (hN _),rfl,J.slot 3 _ rfl,rfl,(hold _).trans (a_ _ _ _ (aw0 _))⟩))

theorem Er(KS:List Int)(SY:KS.length=64)(Te:iS KS)(cv:Array Value)(key msg sig:ByteArray)(hm:msg.size<=281474976706560)(hk:key.size<=1125899906842624)(hs:sig.size<=1125899906842624):∃c,qE KS key msg sig c/\∀w:World,jl KS cv w->Cl kX 15 #[.agg cv,.string key,.string msg,.string sig] w λe w'=>e=.returned (.int .i64 c)/\Bw w w':=by
 obtain⟨c,hc⟩:=rl KS key msg sig;exact⟨c,hc,λw h1=>(wy SY Te key msg sig hm hk hs w h1).mono λe w' ⟨d,e1,e2,e3⟩=>⟨by rw[e1,uE e2 hc],e3⟩⟩
theorem KN:f19.body=some (.seq (rG f19 0) (.seq (rG f19 1) (.seq (.seq (rG f19 2) (.cond (.tmp 17) (.seq (rG f19 3) .ret) .skip)) (.seq (.seq (rG f19 4) (.cond (.tmp 23) (.seq (rG f19 5) .ret) .skip)) (.seq (rD f19 6) (.seq (.seq (rG f19 7) (.cond (.tmp 31) (.seq (rG f19 8) .ret) .skip)) (.seq (rD f19 9) (.seq (.seq (rG f19 10) (.cond (.tmp 50) (.seq (rG f19 11) .ret) .skip)) (.seq (rG f19 12) .ret))))))))):=by kernel_rfl
theorem Aq(KS:List Int)(SY:KS.length=64)(Te:iS KS)(cv:Array Value)(s:ByteArray)(st le:Int)(vu vh:Value)(us:List Bool)(hs:List ByteArray)(w:World)(hU:cV w vu (us.map .bool))(hH:cV w vh (hs.map .string))(WK:us.length<4611686018427387904)(Tf:s.size<=281474976000000)(hC:jl KS cv w):
 Cl kX 19 #[.agg cv,.string s,.agg (eT st le vu vh)] w λe w'=>∃n c,e=.returned (.tuple #[.int .i64 n,.int .i64 c])/\lQ KS s le us hs n c/\Bw w w':=by
 refine cU (t:=6) (u:=7) func19 rfl λcs=>?_;refine bv (N:=54) func19 KN λa J=>?_;refine dw J λw0 a b0 c3 z0 J=>?_;refine dw J λw1 a b1 c5 z1 J=>?_;have c3:=(b1.block _ o_).trans c3;have b1:Bw w w1:=ae b0 b0.size b1;rw[z0]at J c5
 iterate 3 refine ab J λa J=>?_
 refine bz J func41 ((wY s w1 Tf)) λw2 b2 a J=>?_;have B2:Bw w w2:=ae b1 b1.size b2;have z2:=b2.size;have c3:=(b2.block _ o_).trans c3;have c5:=(b2.block _ o_).trans c5
 iterate 3 refine ab J λa J=>?_
 refine bA J (λo ho=>qQ ho) λw3 a b3 c6 _ J=>?_;have c3:=(b3.block _ o_).trans c3;have c5:=(b3.block _ o_).trans c5;have hlen:=BO s.data.toList;have We:=BN s.data.toList;refine aP J (λo ho=>aQ (cells:=(iR s.data.toList).1.toArray) ho (J.Q 8) (J.Q 14) c6 (by rw[jI,AT,hlen]) (by rw[AT,AT,hlen];rfl) (by rw[Array.all_eq_true'];intro v hv;exact We v (by simpa using hv))) λa J=>?_;have d6:=setRow_heap w3 w2.heap.size _ (iR s.data.toList).1.toArray _ _ c6;have B4:Bw w2 (w3.setRow w2.heap.size (iR s.data.toList).1.toArray):=b3.trans (a_ _ _ _ (aw0 _));have d3:=(B4.block _ (by omega:w.heap.size<w2.heap.size)).trans ((b3.block _ o_).symm.trans c3);have d5:=(B4.block _ (by omega:w.heap.size+1<w2.heap.size)).trans ((b3.block _ o_).symm.trans c5);revert d6 B4 d3 d5;generalize w3.setRow w2.heap.size (iR s.data.toList).1.toArray=w4;intro d6 B4 d3 d5;have B4:Bw w w4:=ae B2 B2.size B4;refine ab J λa J=>?_;clear b0 b1 b2 b3 c3 c5 c6
 iterate 2 refine ab J λa J=>?_
 refine a9 rfl (ak _ (J.Q 17) ?_);by_cases h1:(iR s.data.toList).2=0
 .rw[show((iR s.data.toList).2 !=0)=false from by simpa using h1];obtain⟨v,en,sg,at_,l,k,hh,g1,g2,g3,g4,g5⟩:=zV s h1;rw[hh]at d6;have e3:((at_+l:Nat):Int)=(at_:Int)+l:=aA8 _ _;have Yj:(⟨k.toArray⟩:ByteArray).size<=56:=by show k.toArray.size<=_;rw[AT];omega
  iterate 5 refine ab J λa J=>?_
  refine a9 rfl (ak _ (J.Q 23) ?_);by_cases h2:v<le
  .rw[decide_eq_true h2]
   iterate 2 refine ab J λa J=>?_
   exact eN J ⟨0,7,rfl,.inr ⟨v,en,sg,at_,l,k,hh,.inl ⟨h2,rfl,rfl⟩⟩,B4⟩
  rw[decide_eq_false h2];have J:aB [(8,.pk w2.heap.size 0),(5,.pk (w.heap.size+1) 0),(3,.pk w.heap.size 0),(1,.string s)] 54 [] a:=J.only ⟨rfl,rfl,rfl,rfl,trivial⟩;have l6:=(av9.1 d6).1;have l5:=(av9.1 d5).1;have l3:=(av9.1 d3).1;have hX:j1 KS [⟨k.toArray⟩]=⟨(dG KS (⟨k.toArray⟩:ByteArray).data.toList).toArray⟩:=by simp[j1]
  refine a9 rfl (a9 rfl ?_);refine cC J ?_
  iterate 4 refine aj ?_
  refine cy func12 (λw hb _=>hX▸js KS SY Te cv ⟨k.toArray⟩ w (hC.mono (ae B4 B4.size hb)) o_) ?_;refine cy func42 (λw hb _=>uD _ st le vu vh us hs w (hU.below (ae B4 B4.size hb)) (hH.below (ae B4 B4.size hb)) WK) ?_;refine aj ?_;refine cc λa w5 J b5 _=>?_;have B5:Bw w w5:=ae B4 B4.size b5;have d6:=(b5.block _ l6).trans d6;have d3:=(b5.block _ l3).trans d3;have l6:=(av9.1 d6).1;have l3:=(av9.1 d3).1
  iterate 2 refine ab J λa J=>?_
  refine a9 rfl (ak _ (J.Q 31) ?_);cases hv:vouchF us hs (j1 KS [⟨k.toArray⟩])with
  |false=>
   iterate 2 refine ab J λa J=>?_
   exact eN J ⟨0,8,rfl,.inr ⟨v,en,sg,at_,l,k,hh,.inr (.inl ⟨by omega,hv,rfl,rfl⟩)⟩,B5⟩
  |true=>
   obtain⟨c,hc,Tx⟩:=Er KS SY Te cv ⟨k.toArray⟩ (s.extract 0 sg) (s.extract at_ (at_+l)) (by rw[aw6];omega) o_ (by rw[aw6];omega);refine a9 rfl (a9 rfl ?_);refine cC J ?_
   iterate 14 refine aj ?_
   refine aj ?_ (y:=λo a w ho z=>aN ho gx gx o_);refine aj ?_;refine cy func15 (λw hb _=>Tx w (hC.mono (ae B5 B5.size hb))) ?_;refine aj ?_;refine cc λa w6 J b6 _=>?_;have B6:Bw w w6:=ae B5 B5.size b6;have d6:=(b6.block _ l6).trans d6
   iterate 2 refine ab J λa J=>?_
   refine a9 rfl (ak _ (J.Q 50) ?_);by_cases h3:c=0
   .rw[show(c !=0)=false from by simpa using h3]
    iterate 4 refine ab J λa J=>?_
    exact eN J ⟨en,0,rfl,.inr ⟨v,en,sg,at_,l,k,hh,.inr (.inr ⟨by omega,hv,c,hc,.inr ⟨h3,rfl,rfl⟩⟩)⟩,B6⟩
   .rw[show(c !=0)=true from by simpa using h3]
    iterate 3 refine ab J λa J=>?_
    exact eN J ⟨0,c,rfl,.inr ⟨v,en,sg,at_,l,k,hh,.inr (.inr ⟨by omega,hv,c,hc,.inl ⟨h3,rfl,rfl⟩⟩)⟩,B6⟩
 .rw[show((iR s.data.toList).2 !=0)=true from by simpa using h1]
  iterate 3 refine ab J λa J=>?_
  exact eN J ⟨0,_,rfl,.inl ⟨h1,rfl,rfl⟩,B4⟩

def kR(c0 c1 fl wd kp:Value)(up:Bool)(sl:Int):Array Value:=#[c0,c1,fl,wd,kp,.bool up,.int .i64 sl]
section
variable{u:TypeId}
theorem IU(SS:o.op=.fieldAddr 107 x 0)(hx:ev x=.pk b 0):(execOp ev o).run prog w=.ok (.value (.pk b 0)) w:=by
 have e:execOp ev o=(do pure (.value (←aw1 107 (.pk b 0) 0))):=by simp only[execOp,SS,hx]
 have h2:(do pure (.value (←aw1 107 (.pk b 0) 0)):Sem Next).run prog w=.ok (.value (.pk b 0)) w:=by kernel_rfl
 rw[e,h2]
theorem IR(SS:o.op=.fieldAddr 107 x 1)(hx:ev x=.pk b 0):(execOp ev o).run prog w=.ok (.value (.pk b 2)) w:=by
 have e:execOp ev o=(do pure (.value (←aw1 107 (.pk b 0) 1))):=by simp only[execOp,SS,hx]
 have h2:(do pure (.value (←aw1 107 (.pk b 0) 1)):Sem Next).run prog w=.ok (.value (.pk b 2)) w:=by kernel_rfl
 rw[e,h2]
theorem IQ(SS:o.op=.fieldAddr 107 x 2)(hx:ev x=.pk b 0):(execOp ev o).run prog w=.ok (.value (.pk b 3)) w:=by
 have e:execOp ev o=(do pure (.value (←aw1 107 (.pk b 0) 2))):=by simp only[execOp,SS,hx]
 have h2:(do pure (.value (←aw1 107 (.pk b 0) 2)):Sem Next).run prog w=.ok (.value (.pk b 3)) w:=by kernel_rfl
 rw[e,h2]
theorem IP(SS:o.op=.fieldAddr 107 x 3)(hx:ev x=.pk b 0):(execOp ev o).run prog w=.ok (.value (.pk b 4)) w:=by
 have e:execOp ev o=(do pure (.value (←aw1 107 (.pk b 0) 3))):=by simp only[execOp,SS,hx]
 have h2:(do pure (.value (←aw1 107 (.pk b 0) 3)):Sem Next).run prog w=.ok (.value (.pk b 4)) w:=by kernel_rfl
 rw[e,h2]
theorem IM(SS:o.op=.fieldAddr 107 x 4)(hx:ev x=.pk b 0):(execOp ev o).run prog w=.ok (.value (.pk b 5)) w:=by
 have e:execOp ev o=(do pure (.value (←aw1 107 (.pk b 0) 4))):=by simp only[execOp,SS,hx]
 have h2:(do pure (.value (←aw1 107 (.pk b 0) 4)):Sem Next).run prog w=.ok (.value (.pk b 5)) w:=by kernel_rfl
 rw[e,h2]
theorem IL(SS:o.op=.fieldAddr 107 x 5)(hx:ev x=.pk b 0):(execOp ev o).run prog w=.ok (.value (.pk b 6)) w:=by
 have e:execOp ev o=(do pure (.value (←aw1 107 (.pk b 0) 5))):=by simp only[execOp,SS,hx]
 have h2:(do pure (.value (←aw1 107 (.pk b 0) 5)):Sem Next).run prog w=.ok (.value (.pk b 6)) w:=by kernel_rfl
 rw[e,h2]
theorem vp:yz prog 24:=λw=>⟨by kernel_rfl,by kernel_rfl⟩
end
theorem og{p:Prop}(h:p:=by
 first
 |exact oc
 |exact IU ho gx
 |exact IR ho gx
 |exact IQ ho gx
 |exact IP ho gx
 |exact IM ho gx
 |exact IL ho gx
 |exact(av (by first|exact vp|exact oR|exact iJ) ho gx ((ar (by assumption) _).trans rfl)).1
 |exact ix ho gx):p:=h
section
variable{C:iV}{b:Frame}{k:List Item}
theorem bX(J:aB F N ds a)(next:∀a',aB ((d,v)::F) N ds a'->Rn C Goal (b.atR a' (.inRegion ops rest::k')) cs w)(h0:fa 6 (b.atR a k)=.inRegion ops (m::rest)::k':=by rfl)
 (h:(ops[m]?).map (λo=>(o.dst,o.op,o.guard))=some (some d,p,gd):=by rfl) (hw:gV ops F gd=some true:=by rfl) (hy:∀o:Oper,o.op=p->(execOp a.eval o).run C.P w=.ok (.value v) w:=by intro o ho;exact og) (hd:d<N:=by decide) (T5:nd p=true:=by rfl) (ok:kU C.P a.eval p:=by exact nR):Rn C Goal (b.atR a k) cs w:=bK (ye J next h hw hy hd T5 ok) h0
end
section
variable{C:iV}{W:World}{Q:Act->WP}{M:List (Nat×WP)}
theorem uz(next:Gx C ops W N n df Q (m+1) ((d,v)::F) M)(h:Is ops m d p gd:=by rfl)(hw:gV ops F gd=some true:=by rfl)(TV:sV ops (lA ops n m) gd=true:=by kernel_rfl)(y:∀(o:Oper) (a:Act) (w:World),o.op=p->At ops W n m F M a w->(execOp a.eval o).run C.P w=.ok (.value v) w:=by intro o a w ho z;have hC:=z.b;exact og)(ok:∀(a:Act) (w:World),At ops W n m F M a w->kU C.P a.eval p:=by intro a w z;exact nR):Gx C ops W N n df Q m F M:=aj next h hw TV y ok
end
theorem J_(L:ByteArray)(k:Nat):L.extract (k*8192) (k*8192+8192)=⟨(bV L.data.toList (min (k*8192) L.size) (min (k*8192+8192) L.size)).toArray⟩:=by
 have hLl:L.data.toList.length=L.size:=by rw[ax1];rfl
 rw[eB]
 congr 2
 unfold bV;by_cases h1:L.size<=k*8192
 .rw[aK6 h1,aC6 (by rw[aC2];omega),aC6 (by rw[aC2];omega)]
 .rw[aE9 (by omega:k*8192<=L.size)];by_cases h2:L.size<=k*8192+8192
  .rw[aK6 h2,ay5 o_,ay5 o_]
  .rw[aE9 o_]
theorem NU:f102.body=some (.seq (rG f102 0) (.seq (rG f102 1) (.seq (rG f102 2) (.seq (.seq (rG f102 3) (.cond (.tmp 17) (rG f102 4) .skip)) (.seq (.seq (rG f102 5) (.cond (.tmp 29) (rG f102 6) .skip)) (.seq (rG f102 7) .ret)))))):=by kernel_rfl
section
variable{rb:Nat}{c0 c1 fl wd kp:Value}{up:Bool}
theorem CG(k:Nat)(hk:k<2)(hc:w.heap[rb]?=some (.cells (kR c0 c1 fl wd kp up sl) 107))(hf:j7 w fl L):Cl kX 102 #[.pk rb 0,.int .i64 k] w λe w'=>e=.returned (.string (L.extract (k*8192) (k*8192+8192)))/\w'=w:=by
 obtain⟨h62,fb,cap,cells,fr,rfl,TX,XY,_,TN⟩:=hf;refine az (N:=43) func102 NU λcs a J=>?_;have hLl:L.data.toList.length=L.size:=by rw[ax1];rfl
 rw[J_]
 iterate 2 refine bX J λa J=>?_
 refine ai J (λo ho=>iX (m:=8192) ho rfl (J.Q 7) o_) λa J=>?_;rw[Nat.mul_comm 8192 k]at J
 iterate 2 refine bX J λa J=>?_
 refine ai J (λo ho=>aN (n:=8192) ho (J.Q 9) rfl o_) λa J=>?_
 iterate 8 refine bX J λa J=>?_
 refine a9 rfl (ak _ (J.Q 17) ?_);have last:∀{m n:Nat} {a:Act},m<=n->n<=L.size->aB [(0,.pk rb 0),(5,.int .i64 m),(6,.int .i64 n)] 43 [] a->Rn kX (λg w'=>∃(a:Act) (I:List Item) (v:Value),g=dj {(base 102).atR a I with mode:=.returning} cs/\a.defers=[]/\a.tmps[4]?=some v/\(aB2 v=.returned (.string ⟨(bV L.data.toList m n).toArray⟩)/\w'=w)) ((base 102).atR a [.code (.seq (rG f102 7) .ret)]) cs w:=λ{m n a} hmn hn J=>by
  iterate 6 refine bX J λa J=>?_
  have hl:(bV L.data.toList m n).length=n- m:=fA _ _ _ o_;by_cases hmn:m=n
  .subst hmn;have e0:bV L.data.toList m m=[]:=aF4 o_;refine ai J (λo ho=>Bm (cap:=cap) ho (J.Q 38) (J.Q 39) (J.Q 40) o_) λa J=>?_;refine ai J (λo ho=>nC ho (J.Q 41) λj hj=>by simp at hj) λa J=>?_;rw[e0];refine bX J λa J=>?_;exact aH J ⟨rfl,rfl⟩
  .refine ai J (λo ho=>Bj ho (J.Q 38) (J.Q 39) (J.Q 40) o_ o_) λa J=>?_;rw[←hl]at J;refine ai J (λo ho=>nC ho (J.Q 41) λj hj=>?_) λa J=>?_
   .have e:(bV L.data.toList m n)[j]=L.data.toList[m+j]' o_:=(by simp[bV]);rw[e,show w.cell? ⟨fb,m+j,none⟩=cells[m+j]? from by simp[ay_,XY]];exact TN _ o_
   refine bX J λa J=>?_;exact aH J ⟨rfl,rfl⟩
 have mid:∀{m:Nat} {a:Act},m=min (k*8192) L.size->aB [(0,.pk rb 0),(5,.int .i64 m),(6,.int .i64 ((k*8192+8192:Nat):Int))] 43 [] a->Rn kX (λg w'=>∃(a:Act) (I:List Item) (v:Value),g=dj {(base 102).atR a I with mode:=.returning} cs/\a.defers=[]/\a.tmps[4]?=some v/\(aB2 v=.returned (.string ⟨(bV L.data.toList m (min (k*8192+8192) L.size)).toArray⟩)/\w'=w)) ((base 102).atR a [.code (.seq (.seq (rG f102 5) (.cond (.tmp 29) (rG f102 6) .skip)) (.seq (rG f102 7) .ret))]) cs w:=λ{m a} em J=>by
  iterate 7 refine bX J λa J=>?_
  refine a9 rfl (ak _ (J.Q 29) ?_);by_cases h1:L.size<k*8192+8192
  .rw[decide_eq_true o_]
   iterate 6 refine bX J λa J=>?_
   rw[aK6 o_];exact a9 rfl (last o_ (aw0 _) (J.only ⟨rfl,rfl,rfl,trivial⟩))
  .rw[decide_eq_false o_,aE9 o_];exact a9 rfl (last o_ o_ (J.only ⟨rfl,rfl,rfl,trivial⟩))
 by_cases h1:L.size<k*8192
 .rw[decide_eq_true o_]
  iterate 6 refine bX J λa J=>?_
  rw[aK6 (by omega:L.size<=k*8192)];exact a9 rfl (mid o_ (J.only ⟨rfl,rfl,rfl,trivial⟩))
 .rw[decide_eq_false o_,aE9 (by omega:k*8192<=L.size)];exact a9 rfl (mid o_ (J.only ⟨rfl,rfl,rfl,trivial⟩))
end

theorem tu{C:iV}{R:Ending->World->Prop}{t u:Tmp}{d:TypeDesc}(hf:C.P.funcs[f]?=some fn)(TB:fn.results=#[.tmp u,.cell t ty])(hu:C.P.underlying ty=some d)(hd:d.isRow=true)(hi:(C.P.info? ty).map (·.size)=some n)
 (h:∀cs,Rn C (λg w'=>∃(a:Act) (k:List Item) (bk:Nat) (cells:Array Value) (tt:TypeId) (v:Value),g=dj {(base f).atR a k with mode:=.returning} cs/\a.defers=[]/\a.tmps[t]?=some (.pk bk 0)/\w'.heap[bk]?=some (.cells cells tt)/\cells.size=n/\a.tmps[u]?=some v/\R (.returned (.tuple #[v,.agg cells])) w') (ay2 C.P f args .normal) cs w):Cl C f args w R:=by
 refine fB hf λcs L hG=>h cs L λfr cs' w' ⟨a,k,bk,cells,tt,v,e,h2,h3,h4,h5,h6,h7⟩=>hG _ _ _ ⟨a,k,.tuple #[v,.agg cells],e,h2,?_,h7⟩;have hp:a.tmps[t]?.getD undef=.pk bk 0:=by rw[h3];rfl
 have hv:a.tmps[u]?.getD undef=v:=by rw[h6];rfl
 have hr:w'.rangeAt bk 0 cells.toList:=λj x hx=>by
  rw[aw9];have:w'.cell? ⟨bk,j,none⟩=cells[j]?:=by simp[ay_,h4]
  rw[this,←hx,aA9]
 have hl:=run_loadVar_mid (P:=C.P) w' bk 0 ty cells.toList d hr hu hd (by rw[hi];simp[h5]);show(results fn a.tmps).run C.P w'=_;simp[results,TB,hp,hv,asAddr,hl]
structure Wh (w0:World) (ob zb:Nat) (st le:Int) (us:List Bool) (hs:List ByteArray) (vu vh nv:Value) (ns:List Int) (w:World):Prop where
 old:Bw w0 w
 no:w0.heap.size<=ob
 out:w.heap[ob]?=some (.cells (bo 0 false 0 0 0) 100)
 fus:w.heap[zb]?=some (.cells (eT st le vu vh) 45)
 ou:w.ownsRow w0.heap.size 4 1 vu us.length (us.map Value.bool)
 oh:w.ownsRow w0.heap.size 9 1 vh hs.length (hs.map Value.string)
 nt:w.ownsRow w0.heap.size 3 1 nv ns.length (aO ns)
theorem nM{base Zm:Nat}{e:TypeId}(h:w.ownsRow base e 1 v n xs)(hb:Zm<=base):w.ownsRow Zm e 1 v n xs:=⟨h.1,h.2.imp id λ⟨g,cap,cur,e1,e2,e3⟩=>⟨g,cap,cur,e1,az_ hb e2,e3⟩⟩
theorem m4{base:Nat}{e e':TypeId}{v':Value}{ys:List Value}(h:w.ownsRow base e 1 v n xs)(h':w.ownsRow base e' 1 v' m ys)(he:e≠e')(hg:w.grownBy w' v'.ownBlock):w'.ownsRow base e 1 v n xs:=eH h λc ob hc ho=>(hg.block c (aA ho) (by
 rcases h.2 with⟨rfl,_⟩|⟨g,cap,cur,rfl,_,e2,_⟩
 .cases hc
 .cases hc;exact fo h' e2 he)).trans ho
section
variable{ob:Nat}{st le:Int}{us:List Bool}{hs:List ByteArray}{vu vh nv:Value}
theorem Wh.below(h:Wh w0 ob zb st le us hs vu vh nv ns w)(hb:Bw w w'):Wh w0 ob zb st le us hs vu vh nv ns w':=⟨ae h.old h.old.size hb,h.no,bk hb h.out,bk hb h.fus,cG h.ou hb,cG h.oh hb,cG h.nt hb⟩
theorem Wh.app{x:Int}(h:Wh w0 ob zb st le us hs vu vh nv ns w)(hl:ns.length<100)(hg:w.heap[g]?=some (.cells #[.int .i64 x] 3))(hx:ev (.tmp k)=nv)(hy:ev (.tmp j)=.sk g 1 1)(o:Oper)(SS:o.op=.call {callee:=.builtin .append,args:=#[.tmp k,.tmp j],argTypes:=#[24,24]}):
 ∀e':Nat,∃v' w',(execOp ev o).run prog {w with drawn:=e'}= .ok (.value v') w'/\Wh w0 ob zb st le us hs vu vh v' (ns++[x]) w':=λe'=>by
 obtain⟨v',w',h1,h2,h3,h4⟩:=lN (ev:=ev) (t:=24) (z:=.int .i64 0) (bytes:=8) (m:=1) (q:=1) (ad:=⟨g,0,none⟩) (news:=[.int .i64 x]) k_ k_ rfl h.nt (λj u hu=>by
  rcases j with _|j
  .cases hu;rw[az3,ar hg];rfl
  .simp at hu) (by simp[ax4]) rfl hx hy (by unfold maxLen;omega) o_ h.old.size o SS e'
 refine⟨v',w',h1,h.old.trans h3,h.no,(h4.block ob (aA h.out) (fo h.nt h.out d_)).trans h.out,(h4.block zb (aA h.fus) (fo h.nt h.fus d_)).trans h.fus,m4 h.ou h.nt d_ h4,m4 h.oh h.nt d_ h4,?_⟩;rw[BY,show aO (ns++[x])=aO ns++[.int .i64 x]from aC1 ..];exact h2
end
section
variable{c0 c1 fl wd kp:Value}{up:Bool}
theorem CS(SS:o.op=.load 26 x)(hx:ev x=.pk b 0)(h:w.heap[b]?=some (.cells (kR c0 c1 fl wd kp up sl) 107)):(execOp ev o).run prog w=.ok (.value (.agg #[c0,c1])) w:=by
 have h1:(isAgg 26).run prog w=.ok true w:=by kernel_rfl
 have hc:=ar h;simp[execOp,SS,hx,ay9,loadVar,h1,loadCells,loadCellsFrom,aF6,hc,kR,go_sem]
end
theorem II{u:TypeId}{m n:Int}(SS:o.op=.binOp .gtr 36 x y u)(hx:ev x=.int .i64 m)(hy:ev y=.int .i64 n):(execOp ev o).run prog w=.ok (.value (.bool (decide (m>n)))) w:=by
 simp[execOp,SS,hx,hy,go_sem]
theorem GO(KS:List Int)(SY:KS.length=64)(Te:iS KS)(cv:Array Value)(s:ByteArray)(st le:Int)(vu vh:Value)(us:List Bool)(hs:List ByteArray)(WK:us.length<4611686018427387904)(Tf:s.size<=281474976000000){n:Int}(h:lQ KS s le us hs n c)(w:World)(hU:cV w vu (us.map .bool))(hH:cV w vh (hs.map .string))(hC:jl KS cv w):
 Cl kX 19 #[.agg cv,.string s,.agg (eT st le vu vh)] w λe w'=>e=.returned (.tuple #[.int .i64 n,.int .i64 c])/\Bw w w':=
 (Aq KS SY Te cv s st le vu vh us hs w hU hH WK Tf hC).mono λe w' ⟨n',c',e1,e2,e3⟩=>⟨by obtain⟨rfl,rfl⟩:=iD e2 h;exact e1,e3⟩
def zD(f:Func):Code:=.seq (.seq (rG f 9) (.cond (.tmp 39) .skip (.exit 0))) (.seq (.block 1 (.seq (rD f 11) (.seq (rG f 12) (.seq (.seq (rG f 13) (.cond (.tmp 63) (.seq (rG f 14) .ret) .skip)) (.seq (rG f 15) (.cond (.tmp 72) (rG f 16) .skip)))))) (rG f 10))
def FZ(f:Func):Code:=.seq (rG f 17) .ret
theorem NP:f77.body=some (.seq (rG f77 0) (.seq (rG f77 1) (.seq (rG f77 2) (.seq (.seq (rG f77 3) (.cond (.tmp 21) (.seq (rG f77 4) .ret) .skip)) (.seq (.seq (rG f77 5) (.cond (.tmp 33) (.seq (rG f77 6) .ret) .skip)) (.seq (rG f77 7) (.seq (.seq (rG f77 8) (.block 0 (.loop (zD f77)))) (FZ f77)))))))):=by kernel_rfl
section
variable{rb ob:Nat}{c0 c1 fl wd kp:Value}{up:Bool}{st le:Int}{us:List Bool}{hs:List ByteArray}{vu vh:Value}
theorem E_(SY:KS.length=64)(Te:iS KS)(hu:us.length=4)(hc:w0.heap[rb]?=some (.cells (kR c0 c1 fl wd kp up sl) 107))(hC:jl KS #[c0,c1] w0)(hf:j7 w0 fl L)(hk:k<2){gr n:Int}{nv:Value}(hl:ns.length<50)(hP:lQ KS (L.extract (k*8192) (k*8192+8192)) le us hs n c)(hS:Wh w0 ob zb st le us hs vu vh nv ns w)
 (J:aB [(0,.pk rb 0),(3,.pk ob 0),(4,nv),(5,.pk zb 0),(7,.int .i64 gr),(8,.int .i64 k)] 79 [] a)
 (nj:c=0->∀a' w' Yy I,Wh w0 ob zb st le us hs vu vh Yy (ns++[16+16*(k:Int)]++[9]) w'->aB [(2,Yy),(3,.pk ob 0)] 79 [] a'->Rn kX Goal ((base 77).atR a' (.code .ret::I)) cs (put w' ob (bo 0 true k n 0) 100))
 (nn:c≠0->∀a' w' Yy,Wh w0 ob zb st le us hs vu vh Yy (ns++[16+16*(k:Int)+c]) w'->aB [(0,.pk rb 0),(3,.pk ob 0),(4,Yy),(5,.pk zb 0),(7,.int .i64 (max gr c)),(8,.int .i64 ((k+1:Nat):Int))] 79 [] a'->Rn kX Goal ((base 77).atR a' [.code (zD f77),.inLoop (zD f77),.inBlock 0,.code (FZ f77)]) cs w'):
 Rn kX Goal ((base 77).atR a [.code (zD f77),.inLoop (zD f77),.inBlock 0,.code (FZ f77)]) cs w:=by
 have hcb:=pe hP;have cw:∀{w'},Bw w w'->w'.heap[rb]?=some (.cells (kR c0 c1 fl wd kp up sl) 107):=λhb=>bk hb (bk hS.old hc);have fw:∀{w'},Bw w w'->j7 w' fl L:=λhb=>(hf.keep (an (X:=λ_=>False) hS.old) λ_ _ _ _ e=>e).keep (an (X:=λ_=>False) hb) λ_ _ _ _ e=>e
 iterate 2 refine bX J λa J=>?_
 refine a9 rfl (ak _ (J.Q 39) ?_);rw[decide_eq_true o_];have J:aB [(0,.pk rb 0),(3,.pk ob 0),(4,nv),(5,.pk zb 0),(7,.int .i64 gr),(8,.int .i64 k)] 79 [] a:=J.only ⟨rfl,rfl,rfl,rfl,rfl,rfl,trivial⟩
 iterate 4 refine a9 rfl ?_
 refine cC J ?_
 iterate 3 refine uz ?_
 refine aj ?_ (y:=λo a w ho z=>CS ho gx (cw z.b))
 iterate 2 refine uz ?_
 refine cy func102 (λw' hb _=>(CG k hk (cw hb) (fw hb)).mono λe Tm ⟨h1,h2⟩=>⟨h1,h2▸aw8 _ _⟩) ?_;refine aj ?_ (y:=λo a w ho z=>kZ ho gx (bk z.b hS.fus));refine cy func19 (λw' hb _=>GO KS SY Te #[c0,c1] _ st le vu vh us hs o_ (by rw[aw6];omega) hP w' (oP (cG hS.ou hb)) (oP (cG hS.oh hb)) ((hC.mono hS.old).mono hb)) ?_
 iterate 5 refine uz ?_
 refine cc λa w1 J b1 _=>?_;have S1:=hS.below b1
 iterate 2 refine bX J λa J=>?_
 refine ai J (λo ho=>iX (m:=16) ho rfl (J.Q 55) o_) λa J=>?_;refine ai J (λo ho=>aN (m:=16) ho rfl (J.Q 56) o_) λa J=>?_
 iterate 2 refine bX J λa J=>?_
 rw[show((16+16*k:Nat):Int)+c=16+16*(k:Int)+c by omega]at J;refine bA J (λo ho=>li ho (J.Q 59)) λw2 a b2 c2 z2 J=>?_;have S2:=S1.below b2;refine dX J (λo SS=>S2.app o_ c2 (J.Q 54) (J.Q 60) o SS) λv3 w3 S3 a J=>?_
 iterate 3 refine bX J λa J=>?_
 refine a9 rfl (ak _ (J.Q 63) ?_);by_cases h0:c=0
 .subst h0;rw[show 16+16*(k:Int)+0=16+16*(k:Int) by omega]at S3;refine bX J λa J=>?_;refine bA J (λo ho=>li (m:=9) ho rfl) λw4 a b4 c4 z4 J=>?_;have S4:=S3.below b4;refine dX J (λo SS=>S4.app (by simp;omega) c4 (J.Q 64) (J.Q 65) o SS) λv5 w5 S5 a J=>?_
  iterate 2 refine bX J λa J=>?_
  refine ai J (λo ho=>Be ho rfl (J.Q 67) (J.Q 68)) λa J=>?_;refine bX J λa J=>?_;refine aP J (λo ho=>dM ho (J.Q 3) (J.Q 69) S5.out rfl) λa J=>?_;exact a9 rfl (nj rfl _ _ _ _ S5 (J.only ⟨rfl,rfl,trivial⟩))
 .rw[show(c==0)=false from by simpa using h0]
  iterate 2 refine bX J λa J=>?_
  refine ai J (λo ho=>II ho (J.Q 70) (J.Q 71)) λa J=>?_;refine a9 rfl (ak _ (J.Q 72) ?_);have last:∀{g':Int} {a:Act},g'=max gr c->aB [(0,.pk rb 0),(3,.pk ob 0),(4,v3),(5,.pk zb 0),(7,.int .i64 g'),(8,.int .i64 k)] 79 [] a->Rn kX Goal ((base 77).atR a [.inBlock 1,.code (rG f77 10),.inLoop (zD f77),.inBlock 0,.code (FZ f77)]) cs w3:=λ{g' a} eg J=>by
   subst eg;refine bX J λa J=>?_;refine ai J (λo ho=>aN (n:=1) ho (J.Q 40) rfl o_) λa J=>?_;refine bX J λa J=>?_;exact a9 rfl (a9 rfl (nn h0 _ _ _ S3 (J.only ⟨rfl,rfl,rfl,rfl,rfl,rfl,trivial⟩)))
  by_cases hg:c>gr
  .rw[decide_eq_true hg]
   iterate 2 refine bX J λa J=>?_
   exact a9 rfl (last o_ (J.only ⟨rfl,rfl,rfl,rfl,rfl,rfl,trivial⟩))
  .rw[decide_eq_false hg];exact a9 rfl (last o_ (J.only ⟨rfl,rfl,rfl,rfl,rfl,rfl,trivial⟩))
end

def S9(KS W:List Int)(L:ByteArray)(w:World)(v:Value)(w':World):Prop:=∃nv ns j s n c,v=.tuple #[nv,.agg (bo 0 j s n c)]/\eU KS W L ns j s n c/\w'.ownsRow w.heap.size 3 1 nv ns.length (aO ns)/\Bw w w'
section
variable{rb:Nat}{c0 c1 fl kp:Value}{up:Bool}{W:List Int}
theorem yG(SY:KS.length=64)(Te:iS KS)(hc:w.heap[rb]?=some (.cells (kR c0 c1 fl (.sk wb 85 qw) kp up sl) 107))(hC:jl KS #[c0,c1] w)(hf:j7 w fl L)(hW:dL W)(hr:w.rangeAt wb 0 (W.map (Value.int .i64))):
 Cl kX 77 #[.pk rb 0] w λe w'=>∃v,e=.returned v/\S9 KS W L w v w':=by
 refine tu (t:=3) (u:=2) (ty:=100) (n:=5) func77 rfl (by exact underlying100) rfl iY λcs=>?_;refine bv (N:=79) func77 NP λa J=>?_;refine bX J λa J=>?_;refine bA J (λo ho=>i2 ho) λw1 a b1 o1 z1 J=>?_;refine bA J (λo ho=>li (m:=1) ho rfl) λw2 a b2 n2 z2 J=>?_;have B2:Bw w w2:=ae b1 b1.size b2;have Ts:=bk B2 hc
 iterate 5 refine bX J λa J=>?_
 refine bp J func101 (CX (cap:=qw) hW λj v hv=>aU B2 (hr j v hv)) λv w3 hv a J=>?_;obtain⟨st,le,cr,pu,lu,qu,ph,lh,qh,us,hs,rfl,hP,b3,hz⟩:=hv
 iterate 3 refine bX J λa J=>?_
 refine bA J (λo ho=>u7 ho) λw4 a b4 c4 z4 J=>?_;refine aP J (λo ho=>mp ho (J.Q 5) (J.Q 18) c4 rfl) λa J=>?_;have B3:Bw w w3:=ae B2 B2.size b3;have B4:Bw w w4:=ae B3 B3.size b4;have o3:=bk b4 (bk b3 (bk b2 o1));have n3:=bk b4 (bk b3 n2);have n5:w.heap.size<=w3.heap.size:=B3.size;have We:w4.ownsRow w.heap.size 3 1 (.sk w1.heap.size 1 1) 1 (aO [1]):=⟨rfl,.inr ⟨w1.heap.size,1,_,rfl,b1.size,n3,aw0 _,by unfold maxLen;omega,rfl,rfl⟩⟩;have out5:=(bH (cs:=eT st le (.slice pu lu qu) (.slice ph lh qh)) (t:=45) (bN o3 c4 d_)).trans o3;have S5:Wh w w.heap.size w3.heap.size st le us hs (.slice pu lu qu) (.slice ph lh qh) (.sk w1.heap.size 1 1) [1] (put w4 w3.heap.size (eT st le (.slice pu lu qu) (.slice ph lh qh)) 45):=⟨B4.trans (cL n5),aw0 _,out5,aZ c4,eZ (nM (cG hz.1 b4) B2.size) c4 d_,eZ (nM (cG hz.2 b4) B2.size) c4 d_,eZ We c4 d_⟩;revert S5;generalize put w4 w3.heap.size (eT st le (.slice pu lu qu) (.slice ph lh qh)) 45=w5;intro S5
 iterate 2 refine bX J λa J=>?_
 refine bX J λa J=>?_;refine a9 rfl (ak _ (J.Q 21) ?_);have fin:∀{ns:List Int} {j:Bool} {s n c:Int} {us:List Bool} {hs:List ByteArray} {vu vh nv:Value} {zb:Nat} {st le:Int} {w':World} {a:Act} {I:List Item},eU KS W L ns j s n c->Wh w w.heap.size zb st le us hs vu vh nv ns w'->aB [(2,nv),(3,.pk w.heap.size 0)] 79 [] a->Rn kX (λg w'=>∃(a:Act) (k:List Item) (bk:Nat) (cells:Array Value) (tt:TypeId) (v:Value),g=dj {(base 77).atR a k with mode:=.returning} cs/\a.defers=[]/\a.tmps[3]?=some (.pk bk 0)/\w'.heap[bk]?=some (.cells cells tt)/\cells.size=5/\a.tmps[2]?=some v/\∃v',aB2 (.tuple #[v,.agg cells])=.returned v'/\S9 KS W L w v' w') ((base 77).atR a (.code .ret::I)) cs (put w' w.heap.size (bo 0 j s n c) 100):=λ{ns j s n c us hs vu vh nv zb st le w' a I} hq hS J=>
  aS rfl (.inr ⟨_,rfl⟩) (bj ⟨_,_,w.heap.size,_,_,_,rfl,J.defers,J.slot 3 _ rfl,aZ hS.out,rfl,J.slot 2 _ rfl,_,rfl,nv,ns,j,s,n,c,rfl,hq,eZ hS.nt hS.out d_,hS.old.trans (cL (aw0 _))⟩)
 by_cases h0:cr=0
 .subst h0;have l4:us.length=4:=by
   rcases hP with⟨_,_,_,_,rfl,_⟩|⟨_,e⟩
   .simp[yK]
   .cases e
  have c5:=S5.fus
  iterate 3 refine bX J λa J=>?_
  refine bX J λa J=>?_;have go:(st=255\/st=3855)->∀{a:Act},aB [(0,.pk rb 0),(3,.pk w.heap.size 0),(4,.sk w1.heap.size 1 1),(5,.pk w3.heap.size 0)] 79 [] a->Rn kX (λg w'=>∃(a:Act) (k:List Item) (bk:Nat) (cells:Array Value) (tt:TypeId) (v:Value),g=dj {(base 77).atR a k with mode:=.returning} cs/\a.defers=[]/\a.tmps[3]?=some (.pk bk 0)/\w'.heap[bk]?=some (.cells cells tt)/\cells.size=5/\a.tmps[2]?=some v/\∃v',aB2 (.tuple #[v,.agg cells])=.returned v'/\S9 KS W L w v' w') ((base 77).atR a [.code (.seq (rG f77 7) (.seq (.seq (rG f77 8) (.block 0 (.loop (zD f77)))) (FZ f77)))]) cs w5:=λTg a J=>by
   iterate 2 refine bX J λa J=>?_
   refine a9 rfl (a9 rfl (a9 rfl ?_));obtain⟨n0,c0',Yq⟩:=lJ KS (L.extract 0 8192) le us hs;obtain⟨n1,c1',YZ⟩:=lJ KS (L.extract 8192 16384) le us hs;have d0:=pe Yq;have d1:=pe YZ;refine E_ (k:=0) SY Te l4 hc hC hf o_ d_ Yq S5 (J.only ⟨rfl,rfl,rfl,rfl,rfl,rfl,trivial⟩) (λe a w' Yy I hS J=>fin (j:=true) (s:=0) (n:=n0) (c:=0) ⟨st,le,0,us,hs,hP,.inr (.inr ⟨rfl,Tg,n0,c0',Yq,.inl ⟨e,rfl,rfl,rfl,rfl,rfl⟩⟩)⟩ hS J) λe0 a w' Yy hS J=>?_;refine E_ (k:=1) SY Te l4 hc hC hf o_ s_ YZ hS J (λe a w' Yy I hS J=>fin (j:=true) (s:=1) (n:=n1) (c:=0) ⟨st,le,0,us,hs,hP,.inr (.inr ⟨rfl,Tg,n0,c0',Yq,.inr ⟨e0,n1,c1',YZ,.inl ⟨e,by simp,rfl,rfl,rfl,rfl⟩⟩⟩)⟩ hS J) λe1 a w' Yy hS J=>?_
   iterate 2 refine bX J λa J=>?_
   refine a9 rfl (ak _ (J.Q 39) ?_);rw[decide_eq_false o_];refine bX J λa J=>?_;refine bA J (λo ho=>li (m:=4) ho rfl) λw6 a b6 c6 z6 J=>?_;have S6:=hS.below b6;refine dX J (λo SS=>S6.app s_ c6 (J.Q 74) (J.Q 75) o SS) λv7 w7 S7 a J=>?_;refine bX J λa J=>?_;refine ai J (λo ho=>qN ho (J.Q 77)) λa J=>?_;refine bX J λa J=>?_;refine aP J (λo ho=>dM ho (J.Q 3) (J.Q 78) S7.out rfl) λa J=>?_;rw[show max (max 0 c0') c1'=max c0' c1' by omega];exact a9 rfl (fin ⟨st,le,0,us,hs,hP,.inr (.inr ⟨rfl,Tg,n0,c0',Yq,.inr ⟨e0,n1,c1',YZ,.inr ⟨e1,by simp,rfl,rfl,rfl,rfl⟩⟩⟩)⟩ S7 (J.only ⟨rfl,rfl,trivial⟩))
  by_cases e1:st=255
  .rw[show(st !=255)=false from by simpa using e1]at J
   iterate 3 refine bY J λa J=>?_
   refine ai J (λo ho=>gk ho (J.Q 29) rfl) λa J=>?_;refine a9 rfl (ak _ (J.Q 33) ?_);exact a9 rfl (go (.inl e1) (J.only ⟨rfl,rfl,rfl,rfl,trivial⟩))
  .rw[show(st !=255)=true from by simpa using e1]at J
   iterate 3 refine bX J λa J=>?_
   refine ai J (λo ho=>fN ho (J.Q 29) (J.Q 32)) λa J=>?_;refine a9 rfl (ak _ (J.Q 33) ?_);by_cases e2:st=3855
   .rw[show(st !=3855)=false from by simpa using e2];exact a9 rfl (go (.inr e2) (J.only ⟨rfl,rfl,rfl,rfl,trivial⟩))
   .rw[show(st !=3855)=true from by simpa using e2];refine bX J λa J=>?_;refine bA J (λo ho=>li (m:=3) ho rfl) λw6 a b6 c6 z6 J=>?_;have S6:=S5.below b6;refine dX J (λo SS=>S6.app d_ c6 (J.Q 34) (J.Q 35) o SS) λv7 w7 S7 a J=>?_;refine ai J (λo ho=>qN (c:=2) ho rfl) λa J=>?_;refine bX J λa J=>?_;refine aP J (λo ho=>dM ho (J.Q 3) (J.Q 37) S7.out rfl) λa J=>?_;exact a9 rfl (fin ⟨st,le,0,us,hs,hP,.inr (.inl ⟨rfl,e1,e2,rfl,rfl,rfl,rfl,rfl⟩)⟩ S7 (J.only ⟨rfl,rfl,trivial⟩))
 .rw[show(cr !=0)=true from by simpa using h0];refine bX J λa J=>?_;refine bA J (λo ho=>li (m:=2) ho rfl) λw6 a b6 c6 z6 J=>?_;have S6:=S5.below b6;refine dX J (λo SS=>S6.app d_ c6 (J.Q 22) (J.Q 23) o SS) λv7 w7 S7 a J=>?_;refine ai J (λo ho=>qN (c:=1) ho rfl) λa J=>?_;refine bX J λa J=>?_;refine aP J (λo ho=>dM ho (J.Q 3) (J.Q 25) S7.out rfl) λa J=>?_;exact a9 rfl (fin ⟨st,le,cr,us,hs,hP,.inl ⟨h0,rfl,rfl,rfl,rfl,rfl⟩⟩ S7 (J.only ⟨rfl,rfl,trivial⟩))
end

theorem ru{cs:Array Value}{t:TypeId}{fr:Nat×Nat}(v:Value)(h:w.heap[b]?=some (.cells cs t fr)):(w.setCell ⟨b,k,none⟩ v).heap[b]?=some (.cells (cs.setIfInBounds k v) t fr):=by
 unfold IT;rw[By,if_pos rfl,h];rfl
theorem ku(b k:Nat)(v:Value):Ex (· =b) w (w.setCell ⟨b,k,none⟩ v):=⟨rfl,rfl,rfl,by simp[IT],λc _ hc=>by
 unfold IT;rw[By,if_neg λe=>hc e.symm]⟩
def uy(w:World)(kb cap:Nat)(K:List Int):Prop:=Q_ K/\16<=cap/\∃cells fr,w.heap[kb]?=some (.cells cells 5 fr)/\16<=fr.1/\∀j (h:j<K.length),cells[j]?=some (Value.int .u8 K[j])
def R0(w:World)(v:Value)(ns:List Int):Prop:=∃p cap,v=.slice p ns.length cap/\∀(i:Nat) x,ns[i]?=some x->∃g cur,p=some ⟨g,0,none⟩/\w.heap[g]?=some (.cells cur 3)/\cur[i]?=some (Value.int .i64 x)
section
variable{cap:Nat}{K:List Int}
theorem uy.keep(h:uy w kb cap K)(hx:Ex X w w')(hn:¬X kb):uy w' kb cap K:=let ⟨h1,h2,c,f,h3,h4⟩:=h;⟨h1,h2,c,f,hx.at hn h3,h4⟩
theorem Jq{base:Nat}(h:w.ownsRow base 3 1 v n (aO ns)):R0 w v ns:=by
 have hl:ns.length=n:=by have:=h.1;simp[aO]at this;omega
 rcases h.2 with⟨rfl,rfl⟩|⟨g,cap,cur,rfl,_,h2,_,_,_,h3⟩
 .refine⟨none,0,by rw[hl],λi x hx=>?_⟩;have:=(aw5.1 hx).1;omega
 .refine⟨some ⟨g,0,none⟩,cap,by rw[hl],λi x hx=>⟨g,cur,rfl,h2,?_⟩⟩;have hi:=(aw5.1 hx).1;have hu:(aO ns)[i]?=some (.int .i64 x):=by simp[aO,hx]
  rw[←h3,aC8,if_pos o_]at hu;simpa using hu
theorem uy.set(h:uy w kb cap K)(i:Nat)(hi:i<16){x:Int}(hx:0<=x/\x<256):uy (w.setCell ⟨kb,i,none⟩ (.int .u8 x)) kb cap (K.set i x):=by
 obtain⟨⟨h0,h1⟩,h2,cells,fr,h3,h4,h5⟩:=h;refine⟨⟨by simpa using h0,λj hj=>?_⟩,h2,_,fr,ru _ h3,h4,λj hj=>?_⟩
 .rw[aI8];split
  .exact hx
  .exact h1 j (by simpa using hj)
 .have Ux:j<K.length:=by simpa using hj
  have hz:i<cells.size:=by
   have:=h5 i o_;exact(av9.1 this).1
  rw[aG_,aI8];by_cases e:i=j
  .rw[if_pos e,if_pos o_,if_pos e]
  .rw[if_neg e,if_neg e];exact h5 j Ux
theorem rL{len cap:Nat}(SS:o.op=.indexAddr 83 x y)(hx:ev x=.sk g len cap)(hy:ev y=.int .i64 n)(hn:n<len):(execOp ev o).run prog w=.ok (.value (.pk g n)) w:=by
 have:=(bR (w:=w) (t:=83) (e:=5) k_ (λw=>by kernel_rfl) SS hx hy hn).1
 rwa [az3,aw9]at this
theorem Jc(hm:m<256)(SS:o.op=.convert 5 3 x)(hx:ev x=.int .u8 m):(execOp ev o).run prog w=.ok (.value (.int .i64 m)) w:=by
 have h1:prog.underlying 5=some (.int .u8):=by kernel_rfl
 have h2:prog.underlying 3=some (.int .i64):=by kernel_rfl
 have e:ax8.wrap (m:Int)=m:=by rw[ay4];omega
 simp[execOp,SS,hx,go_sem,h1,h2,e]
theorem Ld(h:uy w kb cap K)(hi:i<16){n:Int}(SS:o.op=.store 5 x y)(hx:ev x=.pk kb i)(hy:ev y=.int .u8 n):(execOp ev o).run prog w=.ok .skip (w.setCell ⟨kb,i,none⟩ (.int .u8 n)):=by
 obtain⟨⟨h0,_⟩,_,cells,fr,h3,h4,h5⟩:=h;exact(dC (v:=.int .u8 n) rfl rfl k_ SS hx hy (show w.cell? ⟨kb,i,none⟩=_ from by simp only[ay_,h3];exact h5 i o_) (by simp only[World.frozen?,h3];rw[Bool.and_eq_false_iff];left;simp;omega)).1
theorem C0(h:uy w kb cap K)(hi:i<K.length):w.cell? ⟨kb,i,none⟩=some (.int .u8 K[i]):=by
 obtain⟨_,_,cells,fr,h3,_,h5⟩:=h;simp only[ay_,h3];exact h5 i hi
end
def N8(f:Func):Code:=.seq (.seq (rG f 1) (.cond (.tmp 9) .skip (.exit 0))) (.seq (.block 1 (.seq (rG f 3) (.seq (rD f 4) (rG f 5)))) (rG f 2))
theorem NZ:f78.body=some (.seq (rG f78 0) (.block 0 (.loop (N8 f78)))):=by kernel_rfl
section
variable{rb:Nat}{c0 c1 fl wd:Value}{up:Bool}{K0:List Int}
theorem zr(hc:w0.heap[rb]?=some (.cells (kR c0 c1 fl wd (.sk kb 16 qk) up sl) 107))(h8:∃cs fr,w0.heap[kb]?=some (.cells cs 5 fr))(hL:R0 w0 lv ns)(hn:ns.length<1000)(nt:∀a w,uy w kb qk (nts K0 ns)->Ex (· =kb) w0 w->aB [] 40 [] a->Rn kX Goal ((base 78).atR a []) cs w):
 ∀(m i:Nat) (w:World) (a:Act),ns.length- i=m->i<=ns.length->uy w kb qk (nts K0 (ns.take i))->Ex (· =kb) w0 w->aB [(0,.pk rb 0),(1,lv),(4,.int .i64 i)] 40 [] a->Rn kX Goal ((base 78).atR a [.code (N8 f78),.inLoop (N8 f78),.inBlock 0]) cs w:=by
 obtain⟨p,cap,rfl,T4⟩:=id hL;obtain⟨kc,kf,hk8⟩:=h8;have nrb:¬rb=kb:=λe=>by
  rw[e,hk8]at hc;injection hc with hc;injection hc with _ hc;cases hc
 intro m;induction m with
 |zero=>
  intro i w a hm hi hK hx J
  iterate 3 refine bX J λa J=>?_
  refine bX J λa J=>?_;refine a9 rfl (ak _ (J.get (d:=9) rfl) ?_);rw[decide_eq_false o_];rw[ay5 o_]at hK;exact a9 rfl (nt _ _ hK hx (J.only trivial))
 |succ m ih=>
  intro i w a hm hi hK hx J;have Tj:i<ns.length:=by omega
  obtain⟨g,cur,rfl,hg,hgi⟩:=T4 i ns[i] (aw3 Tj);have ng:g≠kb:=λe=>by
   rw[e,hk8]at hg;injection hg with hg;injection hg with _ hg;cases hg
  have WN:=hx.at ng hg;have VG:=hx.at nrb hc
  iterate 3 refine bX J λa J=>?_
  refine bX J λa J=>?_;refine a9 rfl (ak _ (J.get (d:=9) rfl) ?_);rw[decide_eq_true o_];rw[show nts K0 (ns.take i)=nts K0 (ns.take i)from rfl]at hK;have eK:nts K0 (ns.take (i+1))=zq (nts K0 (ns.take i)) ns[i]:=by
   rw[aR1,aw3 Tj,Option.toList_some];unfold nts;rw[List.foldl_append];rfl
  generalize nts K0 (ns.take i)=K at hK eK;have ZS:=hK.1.1;obtain⟨c,W7,TN⟩:∃c:Nat,K[0]=(c:Int)/\c<256:=⟨(K[0]).toNat,by have:=hK.1.2 0 o_;omega,by have:=hK.1.2 0 o_;omega⟩;have hgd:K.getD 0 0=(c:Int):=by rw[aw4,aw3 (by omega:0<K.length),W7];rfl
  have ck:=C0 hK (i:=0) o_;rw[W7]at ck
  iterate 4 refine bX J λa J=>?_
  refine ai J (λo ho=>rL (n:=0) ho (J.get (d:=15) rfl) rfl o_) λa J=>?_;refine ai J (λo ho=>(av vo ho (J.get (d:=16) rfl) ck).1) λa J=>?_;refine ai J (λo ho=>Jc TN ho (J.get (d:=17) rfl)) λa J=>?_;refine bX J λa J=>?_;have J:aB [(0,.pk rb 0),(1,.sk g ns.length cap),(4,.int .i64 i),(5,.int .i64 c)] 40 [] a:=J.only ⟨rfl,rfl,rfl,rfl,trivial⟩;have SX:1+c%15<16:=by omega
  refine a9 rfl (a9 rfl ?_);refine ie 13 J ?_
  iterate 3 refine uz ?_
  refine aj ?_ (y:=λo a w ho z=>(av oR ho gx ((ar (bk z.b VG) 4).trans rfl)).1);refine uz ?_;refine aj ?_ (y:=λo a w ho z=>qL (n:=15) ho gx rfl o_);refine aj ?_ (y:=λo a w ho z=>aN (m:=1) ho rfl gx o_)
  iterate 2 refine uz ?_
  refine aj ?_ (y:=λo a w ho z=>(b_ (t:=24) (off:=0) i k_ ho gx gx Tj).trans (by rw[aw9]));refine aj ?_ (y:=λo a w ho z=>(av aC ho gx ((ar (bk z.b WN) i).trans hgi)).1);refine aj ?_ (y:=λo a w ho z=>jW ho gx);refine aj ?_ (y:=λo a w ho z=>rL ho gx gx SX);refine cc λa w1 J b1 _ rest hgo=>?_;have Yr:=hK.keep (an (X:=λ_=>False) b1) (λe=>e);refine aP J (λo ho=>Ld Yr SX ho (J.get (d:=31) rfl) (J.get (d:=30) rfl)) λa J=>hgo _ _ ?_;have VZ:=Yr.set (1+c%15) SX (x:=aB3.wrap ns[i]) (by rw[aD_];omega);have x1:=(hx.trans (an (X:=(· =kb)) b1) λ_ _ e=>e).trans (ku kb (1+c%15) (.int .u8 (aB3.wrap ns[i]))) λ_ _ e=>e;revert VZ x1;generalize w1.setCell ⟨kb,1+c%15,none⟩ (.int .u8 (aB3.wrap ns[i]))=w2;intro VZ x2;have Ts:=x2.at nrb hc
  iterate 5 refine bX J λa J=>?_
  refine ai J (λo ho=>aN (n:=1) ho (J.get (d:=36) rfl) rfl o_) λa J=>?_;refine ai J (λo ho=>jW ho (J.get (d:=37) rfl)) λa J=>?_;refine ai J (λo ho=>rL (n:=0) ho (J.get (d:=35) rfl) rfl o_) λa J=>?_;refine aP J (λo ho=>Ld VZ o_ ho (J.get (d:=39) rfl) (J.get (d:=38) rfl)) λa J=>?_;have Y7:=VZ.set 0 o_ (x:=aB3.wrap ((c+1:Nat):Int)) (by rw[aD_];omega);have x3:=x2.trans (ku kb 0 (.int .u8 (aB3.wrap ((c+1:Nat):Int)))) λ_ _ e=>e;rw[show(K.set (1+c%15) (aB3.wrap ns[i])).set 0 (aB3.wrap ((c+1:Nat):Int))=zq K ns[i]from by unfold zq;rw[hgd,aE3,aA8];rfl,←eK]at Y7;refine bX J λa J=>?_;refine ai J (λo ho=>aN (n:=1) ho (J.get (d:=10) rfl) rfl o_) λa J=>?_;refine bX J λa J=>?_;exact a9 rfl (a9 rfl (ih (i+1) _ _ o_ o_ Y7 x3 (J.only ⟨rfl,rfl,rfl,trivial⟩)))
theorem tZ(hc:w.heap[rb]?=some (.cells (kR c0 c1 fl wd (.sk kb 16 qk) up sl) 107))(hK:uy w kb qk K0)(hL:R0 w lv ns)(hn:ns.length<1000):
 Cl kX 78 #[.pk rb 0,lv] w λe w'=>e=.returned (.tuple #[])/\uy w' kb qk (nts K0 ns)/\Ex (· =kb) w w':=by
 refine dk func78 rfl λcs=>?_;refine bv (N:=40) func78 NZ λa J=>?_;refine bX J λa J=>?_;refine a9 rfl (a9 rfl (a9 rfl ?_));exact zr hc (let ⟨_,_,c,f,h,_⟩:=hK;⟨c,f,h⟩) hL hn (λa w' hK hx J=>oA J ⟨rfl,hK,hx⟩) ns.length 0 w _ o_ o_ hK Ex.refl (J.only ⟨rfl,rfl,rfl,trivial⟩)
end

def fZ(w:World)(v:Value)(m:Int):Prop:=∃p n cap,v=.slice p n cap/\∀i:Nat,i<n->∃b cur,p=some ⟨b,0,none⟩/\w.heap[b]?=some (.cells cur 3)/\cur[i]?=some (Value.int .i64 m)
def qG(w:World)(g n cap:Nat)(m:Int):Prop:=∃cur:Array Value,w.heap[g]?=some (.cells cur 3)/\n<=cap/\cap<=maxLen/\cur.size=cap/\∀i:Nat,i<n->cur[i]?=some (Value.int .i64 m)
section
variable{m:Int}{cap:Nat}
theorem qG.own(h:qG w g n cap m):w.ownsRow 0 3 1 (.sk g n cap) n (ax2 n (.int .i64 m)):=by
 obtain⟨cur,h1,h2,h3,h4,h5⟩:=h;refine⟨by simp,.inr ⟨g,cap,cur,rfl,ay7 _,h1,h2,h3,by omega,?_⟩⟩;apply List.ext_getElem?;intro i;rw[aC8,aH6];by_cases hi:i<n
 .rw[if_pos o_,if_pos hi,aA9,h5 i hi]
 .rw[if_neg o_,if_neg hi]
theorem qG.is(h:qG w g n cap m):fZ w (.sk g n cap) m:=let ⟨cur,h1,_,_,_,h5⟩:=h;⟨_,n,cap,rfl,λi hi=>⟨g,cur,rfl,h1,h5 i hi⟩⟩
theorem fZ.grow{W2:Array Value}(h:fZ w v m)(hg:w.heap[g]?=some (.cells cur 3))(WN:w'.heap[g]?=some (.cells W2 3))(hk:∀b o,b≠g->w.heap[b]?=some o->w'.heap[b]?=some o)(hs:∀i:Nat,cur[i]?=some (Value.int .i64 m)->W2[i]?=some (Value.int .i64 m)):fZ w' v m:=by
 obtain⟨p,n,cap,rfl,h⟩:=h;refine⟨p,n,cap,rfl,λi hi=>?_⟩;obtain⟨b,c,e1,e2,e3⟩:=h i hi;by_cases e:b=g
 .subst e;rw[hg]at e2;cases e2;exact⟨b,W2,e1,WN,hs i e3⟩
 .exact⟨b,c,e1,hk b _ e e2,e3⟩
theorem fZ.keep(h:fZ w v m)(hk:∀b cur,v.ownBlock=some b->w.heap[b]?=some (.cells cur 3)->w'.heap[b]?=some (.cells cur 3)):fZ w' v m:=by
 obtain⟨p,n,cap,rfl,h⟩:=h;refine⟨p,n,cap,rfl,λi hi=>?_⟩;obtain⟨b,c,rfl,e2,e3⟩:=h i hi;exact⟨b,c,rfl,hk b _ rfl e2,e3⟩
theorem Hb(J:qG w g n cap m)(XQ:∀i:Nat,i<r->w.cell? (ad.add i)=some (.int .i64 m))(hn:n+r<=1000)(hx:ev (.tmp k)=.sk g n cap)(hy:ev (.tmp j)=.slice (some ad) r q)(o:Oper)(SS:o.op=.call {callee:=.builtin .append,args:=#[.tmp k,.tmp j],argTypes:=#[24,24]}):
 ∃v' w',(execOp ev o).run prog w=.ok (.value v') w'/\fZ w' v' m/\(∃b,v'.ownBlock=some b/\(b=g\/w.heap.size<=b)/\b<w'.heap.size)/\(∃p c,v'= .slice p (n+r) c)/\qG w' g n cap m/\(∀u,fZ w u m->fZ w' u m)/\Ex (· =g) w w':=by
 have To:=J.own;obtain⟨cur,h1,h2,h3,h4,h5⟩:=id J;obtain⟨i,hi,Uh⟩:=IS.1 (show(prog.info? 3).map (λi=>(i.zero,i.size,i.bytes))=some (some (.int .i64 0),1,8) by kernel_rfl);simp only[Prod.mk.injEq]at Uh;have hu:prog.underlying 24=some (.slice 3):=by kernel_rfl
 have hnw:∀(j:Nat) u,(ax2 r (Value.int .i64 m))[j]?=some u->w.cell? (ad.add j)=some u:=λj u hu=>by
  rw[aH6]at hu;split at hu
  .cases hu;exact XQ j ‹_›
  .cases hu
 have e:execOp ev o=(do pure (.value (←aJ4 #[24,24] o.type #[.sk g n cap,.slice (some ad) r q]))):=by simp[execOp,SS,resolve,hx,hy,invoke,builtin]
 by_cases Wt:n+r<=cap
 .have Ti:=run_append_room (P:=prog) w 24 o.type 3 i hu hi g n cap cur h1 ad r q (ax2 r (.int .i64 m)) (by simp[Uh.2.1]) hnw (by simp[ax4]) Wt (by simp[Uh.2.1];omega);rw[Uh.2.1,gD h1,Nat.mul_one,aL5]at Ti;have Tf:(cur.toList.take n++ax2 r (Value.int .i64 m)++cur.toList.drop (n+r)).toArray.size=cap:=by simp;omega
  have T4:∀i:Nat,(cur.toList.take n++ax2 r (Value.int .i64 m)++cur.toList.drop (n+r)).toArray[i]?=if n<=i/\i<n+r then some (.int .i64 m)else cur[i]?:=λi=>by
   rw[AS,List.append_assoc,aV0,aC2,ax1,aE9 o_];by_cases a1:i<n
   .rw[if_pos a1,if_neg o_,aC8,if_pos a1,aA9]
   .rw[if_neg a1,aV0,aL5];by_cases a2:i- n<r
    .rw[if_pos a2,if_pos o_,aH6,if_pos a2]
    .rw[if_neg a2,if_neg o_,aG1,aA9]
     congr 1
     omega
  revert Ti Tf T4;generalize (cur.toList.take n++ax2 r (Value.int .i64 m)++cur.toList.drop (n+r)).toArray=W2;intro Ti Tf T4;have hp:=aZ (cs:=W2) (t:=3) h1;have up:∀i:Nat,cur[i]?=some (Value.int .i64 m)->W2[i]?=some (Value.int .i64 m):=λi h=>by
   rw[T4];split
   .rfl
   .exact h
  have lt5:=aA h1;refine⟨_,_,by rw[e];exact kx Ti,⟨_,n+r,cap,rfl,λi hi=>⟨g,W2,rfl,hp,?_⟩⟩,⟨g,rfl,.inl rfl,by rw[fm];exact lt5⟩,⟨_,_,rfl⟩,⟨W2,hp,h2,h3,Tf,λi hi=>up i (h5 i hi)⟩,λu hu=>hu.grow h1 hp (λb o hb ho=>(bH hb).trans ho) up,bC _ _ _⟩;rw[T4];split
  .rfl
  .exact h5 i o_
 .have Ti:=run_append_grow (P:=prog) w 24 o.type 3 i (.int .i64 0) hu hi Uh.1 ⟨g,0,none⟩ n cap (ax2 n (.int .i64 m)) (by simp[Uh.2.1]) (To.cells (g:=g) rfl) ad r q (ax2 r (.int .i64 m)) (by simp[Uh.2.1]) hnw o_ o_ (growslice_fits o_ (by rw[Uh.2.2];omega));obtain⟨v',w',r1,r2,r3,_⟩:=run_append_own (P:=prog) w 0 24 o.type 3 i (.int .i64 0) 1 8 hu hi Uh.1 Uh.2.1 Uh.2.2 rfl o_ _ n _ To ad r q (ax2 r (.int .i64 m)) s_ hnw (by simp[ax4]) (by unfold maxLen;omega) o_ (ay7 _);rw[Ti]at r1;injection r1 with r1 r1';have bel:Bw w w':=by
   rw[←r1'];exact(AA w).trans (aJ w.drew _)
  subst r1;refine⟨_,w',by rw[e,←r1'];exact kx Ti,?_,⟨_,rfl,.inr (aw0 _),by rw[←r1',ay];exact Nat.lt_succ_self _⟩,⟨_,_,rfl⟩,⟨cur,bk bel h1,h2,h3,h4,h5⟩,λu hu=>hu.keep λb o _ ho=>(bel.block b (aA ho)).trans ho,an bel⟩;have:=Jq (ns:=ax2 (n+r) m) (by
   rw[List.replicate_append_replicate]at r2;have e3:aO (ax2 (n+r) m)=ax2 (n+r) (Value.int .i64 m):=(by simp[aO]);rw[e3];exact r2)
  obtain⟨p,c,e1,e2⟩:=this;rw[aL5]at e1;refine⟨p,n+r,c,e1,λi hi=>?_⟩;obtain⟨b,cu,q1,q2,q3⟩:=e2 i m (by rw[aH6,if_pos hi]);exact⟨b,cu,q1,q2,q3⟩
theorem vS(J:qG w g n cap m)(XQ:∀i:Nat,i<r->w.cell? (ad.add i)=some (.int .i64 m))(hn:n+r<=1000)(hx:ev (.tmp k)=.sk g n cap)(hy:ev (.tmp j)=.slice (some ad) r q)(o:Oper)(SS:o.op=.call {callee:=.builtin .append,args:=#[.tmp k,.tmp j],argTypes:=#[24,24]}):
 ∀e':Nat,∃v' w',(execOp ev o).run prog {w with drawn:=e'}= .ok (.value v') w'/\fZ w' v' m/\(∃b,v'.ownBlock=some b/\(b=g\/w.heap.size<=b)/\b<w'.heap.size)/\(∃p c,v'= .slice p (n+r) c)/\qG w' g n cap m/\(∀u,fZ w u m->fZ w' u m)/\Ex (· =g) w w':=λe'=>
 let ⟨v',w',h1,h2,h3,h4,h5,h6,h7⟩:=Hb (w:={w with drawn:=e'}) J XQ hn hx hy o SS
 ⟨v',w',h1,h2,h3,h4,h5,h6,⟨h7.os,h7.output,h7.tape,h7.size,h7.block⟩⟩
end

structure Ls (w:World) (Z:Nat->Prop) (lv mv:Value) (ls:List Value) (ms:List Int):Prop where
 ol:w.ownsRow 0 24 1 lv ls.length ls
 om:w.ownsRow 0 3 1 mv ms.length (aO ms)
 len:ls.length=ms.length
 all:∀(i:Nat) v m,ls[i]?=some v->ms[i]?=some m->fZ w v m
 apart:∀v b,v∈ls->v.ownBlock=some b->mv.ownBlock≠some b/\¬Z b/\b<w.heap.size
 mw:∀b,mv.ownBlock=some b->¬Z b
 small:∀v,v∈ls->∃p n c,v=.slice p n c/\n<=1000
def td(lb rb:Nat)(lv mv:Value):Array Value:=#[.pk lb 0,.pk rb 0,lv,mv]
theorem mG{base:Nat}{e:TypeId}(h:w.ownsRow base e 1 v n xs)(hb:v.ownBlock=some b):b<w.heap.size:=by
 rcases h.2 with⟨rfl,_⟩|⟨g,cap,cur,rfl,_,h2,_⟩
 .cases hb
 .cases hb;exact aA h2
section
variable{rb:Nat}{mv:Value}
theorem Ls.keep(h:Ls w Z lv mv ls ms)(hx:Ex X w w')(hi:∀b cs fr,w.heap[b]?=some (.cells cs 3 fr)->¬X b\/Z b)(hl:∀b cs fr,w.heap[b]?=some (.cells cs 24 fr)->¬X b):Ls w' Z lv mv ls ms:=by
 refine⟨eH h.ol λc o hc ho=>?_,eH h.om λc o hc ho=>?_,h.len,λi v m h1 h2=>(h.all i v m h1 h2).keep λb o hb ho=>?_,λv b h1 h2=>⟨(h.apart v b h1 h2).1,(h.apart v b h1 h2).2.1,aw2 (h.apart v b h1 h2).2.2 hx.size⟩,h.mw,h.small⟩
 .rcases h.ol.2 with⟨e,_⟩|⟨g,cap,cur,e,_,e2,_⟩
  .rw[e]at hc;cases hc
  .rw[e]at hc;cases hc;exact hx.at (hl _ _ _ e2) ho
 .rcases h.om.2 with⟨e,_⟩|⟨g,cap,cur,e,_,e2,_⟩
  .rw[e]at hc;cases hc
  .have hm:=h.mw;rw[e]at hc hm;cases hc;exact hx.at ((hi _ _ _ e2).resolve_right (hm _ rfl)) ho
 .exact hx.at ((hi _ _ _ ho).resolve_right (h.apart v b (aw7 h1) hb).2.1) ho
theorem Ls.below(h:Ls w Z lv mv ls ms)(hb:Bw w w'):Ls w' Z lv mv ls ms:=h.keep (an (X:=λ_=>False) hb) (λ_ _ _ _=>.inl λe=>e) λ_ _ _ _ e=>e
end
theorem IY(SS:o.op=.fieldAddr 60 x 0)(hx:ev x=.pk b 0):(execOp ev o).run prog w=.ok (.value (.pk b 0)) w:=by
 have e:execOp ev o=(do pure (.value (←aw1 60 (.pk b 0) 0))):=by simp only[execOp,SS,hx]
 have h2:(do pure (.value (←aw1 60 (.pk b 0) 0)):Sem Next).run prog w=.ok (.value (.pk b 0)) w:=by kernel_rfl
 rw[e,h2]
theorem IX(SS:o.op=.fieldAddr 60 x 1)(hx:ev x=.pk b 0):(execOp ev o).run prog w=.ok (.value (.pk b 1)) w:=by
 have e:execOp ev o=(do pure (.value (←aw1 60 (.pk b 0) 1))):=by simp only[execOp,SS,hx]
 have h2:(do pure (.value (←aw1 60 (.pk b 0) 1)):Sem Next).run prog w=.ok (.value (.pk b 1)) w:=by kernel_rfl
 rw[e,h2]
theorem IW(SS:o.op=.fieldAddr 60 x 2)(hx:ev x=.pk b 0):(execOp ev o).run prog w=.ok (.value (.pk b 2)) w:=by
 have e:execOp ev o=(do pure (.value (←aw1 60 (.pk b 0) 2))):=by simp only[execOp,SS,hx]
 have h2:(do pure (.value (←aw1 60 (.pk b 0) 2)):Sem Next).run prog w=.ok (.value (.pk b 2)) w:=by kernel_rfl
 rw[e,h2]
theorem IV(SS:o.op=.fieldAddr 60 x 3)(hx:ev x=.pk b 0):(execOp ev o).run prog w=.ok (.value (.pk b 3)) w:=by
 have e:execOp ev o=(do pure (.value (←aw1 60 (.pk b 0) 3))):=by simp only[execOp,SS,hx]
 have h2:(do pure (.value (←aw1 60 (.pk b 0) 3)):Sem Next).run prog w=.ok (.value (.pk b 3)) w:=by kernel_rfl
 rw[e,h2]
theorem FJ:yz prog 58:=λw=>⟨by kernel_rfl,by kernel_rfl⟩
theorem Js:yz prog 56:=λw=>⟨by kernel_rfl,by kernel_rfl⟩
theorem Jr:yz prog 57:=λw=>⟨by kernel_rfl,by kernel_rfl⟩
theorem Ji{m:Int}(SS:o.op=.buildSlice 24 2 #[(0,x),(1,y)])(hx:ev x=.int .i64 m)(hy:ev y=.int .i64 m):(execOp ev o).run prog w=.ok (.value (.sk w.heap.size 2 2)) (w.alloc (.cells #[.int .i64 m,.int .i64 m] 3)):=by
 have e:execOp ev o=(do pure (.value (←ax5 24 2 #[(0,.int .i64 m),(1,.int .i64 m)]))):=by simp[execOp,SS,hx,hy]
 have h2:(do pure (.value (←ax5 24 2 #[(0,.int .i64 m),(1,.int .i64 m)])):Sem Next).run prog w=.ok (.value (.sk w.heap.size 2 2)) (w.alloc (.cells #[.int .i64 m,.int .i64 m] 3)):=by kernel_rfl
 rw[e,h2]
theorem Jh{m:Int}(SS:o.op=.buildSlice 24 3 #[(0,x),(1,y),(2,z)])(hx:ev x=.int .i64 m)(hy:ev y=.int .i64 m)(hz:ev z=.int .i64 m):(execOp ev o).run prog w=.ok (.value (.sk w.heap.size 3 3)) (w.alloc (.cells #[.int .i64 m,.int .i64 m,.int .i64 m] 3)):=by
 have e:execOp ev o=(do pure (.value (←ax5 24 3 #[(0,.int .i64 m),(1,.int .i64 m),(2,.int .i64 m)]))):=by simp[execOp,SS,hx,hy,hz]
 have h2:(do pure (.value (←ax5 24 3 #[(0,.int .i64 m),(1,.int .i64 m),(2,.int .i64 m)])):Sem Next).run prog w=.ok (.value (.sk w.heap.size 3 3)) (w.alloc (.cells #[.int .i64 m,.int .i64 m,.int .i64 m] 3)):=by kernel_rfl
 rw[e,h2]
theorem Jg{u:Operand}{m:Int}(SS:o.op=.buildSlice 24 4 #[(0,x),(1,y),(2,z),(3,u)])(hx:ev x=.int .i64 m)(hy:ev y=.int .i64 m)(hz:ev z=.int .i64 m)(hu:ev u=.int .i64 m):(execOp ev o).run prog w=.ok (.value (.sk w.heap.size 4 4)) (w.alloc (.cells #[.int .i64 m,.int .i64 m,.int .i64 m,.int .i64 m] 3)):=by
 have e:execOp ev o=(do pure (.value (←ax5 24 4 #[(0,.int .i64 m),(1,.int .i64 m),(2,.int .i64 m),(3,.int .i64 m)]))):=by simp[execOp,SS,hx,hy,hz,hu]
 have h2:(do pure (.value (←ax5 24 4 #[(0,.int .i64 m),(1,.int .i64 m),(2,.int .i64 m),(3,.int .i64 m)])):Sem Next).run prog w=.ok (.value (.sk w.heap.size 4 4)) (w.alloc (.cells #[.int .i64 m,.int .i64 m,.int .i64 m,.int .i64 m] 3)):=by kernel_rfl
 rw[e,h2]
theorem Jf{u:Operand}{p1 p2 p3 p4:Option Addr}{n1 n2 n3 n4 q1 q2 q3 q4:Nat}(SS:o.op=.buildSlice 58 4 #[(0,x),(1,y),(2,z),(3,u)])(hx:ev x=.slice p1 n1 q1)(hy:ev y=.slice p2 n2 q2)(hz:ev z=.slice p3 n3 q3)(hu:ev u=.slice p4 n4 q4):(execOp ev o).run prog w=.ok (.value (.sk w.heap.size 4 4)) (w.alloc (.cells #[.slice p1 n1 q1,.slice p2 n2 q2,.slice p3 n3 q3,.slice p4 n4 q4] 24)):=by
 have e:execOp ev o=(do pure (.value (←ax5 58 4 #[(0,.slice p1 n1 q1),(1,.slice p2 n2 q2),(2,.slice p3 n3 q3),(3,.slice p4 n4 q4)]))):=by simp[execOp,SS,hx,hy,hz,hu]
 have h2:(do pure (.value (←ax5 58 4 #[(0,.slice p1 n1 q1),(1,.slice p2 n2 q2),(2,.slice p3 n3 q3),(3,.slice p4 n4 q4)])):Sem Next).run prog w=.ok (.value (.sk w.heap.size 4 4)) (w.alloc (.cells #[.slice p1 n1 q1,.slice p2 n2 q2,.slice p3 n3 q3,.slice p4 n4 q4] 24)):=by kernel_rfl
 rw[e,h2]
theorem ol{p:Prop}(h:p:=by
 first
 |exact og
 |exact IY ho gx
 |exact IX ho gx
 |exact IW ho gx
 |exact IV ho gx
 |exact(av (by first|exact FJ|exact Js|exact Jr) ho gx ((ar (by assumption) _).trans rfl)).1
 |exact fL (ty:=58) (e:=24) k_ ho gx):p:=h
section
variable{C:iV}{b:Frame}{k:List Item}
theorem aF(J:aB F N ds a)(next:∀a',aB ((d,v)::F) N ds a'->Rn C Goal (b.atR a' (.inRegion ops rest::k')) cs w)(h0:fa 6 (b.atR a k)=.inRegion ops (m::rest)::k':=by rfl)
 (h:(ops[m]?).map (λo=>(o.dst,o.op,o.guard))=some (some d,p,gd):=by rfl) (hw:gV ops F gd=some true:=by rfl) (hy:∀o:Oper,o.op=p->(execOp a.eval o).run C.P w=.ok (.value v) w:=by intro o ho;exact ol) (hd:d<N:=by decide) (T5:nd p=true:=by rfl) (ok:kU C.P a.eval p:=by exact nR):Rn C Goal (b.atR a k) cs w:=bK (ye J next h hw hy hd T5 ok) h0
end
section
variable{C:iV}{W:World}{Q:Act->WP}{M:List (Nat×WP)}
theorem cQ(next:Gx C ops W N n df Q (m+1) ((d,v)::F) M)(h:Is ops m d p gd:=by rfl)(hw:gV ops F gd=some true:=by rfl)(TV:sV ops (lA ops n m) gd=true:=by kernel_rfl)(y:∀(o:Oper) (a:Act) (w:World),o.op=p->At ops W n m F M a w->(execOp a.eval o).run C.P w=.ok (.value v) w:=by intro o a w ho z;have hC:=z.b;exact ol)(ok:∀(a:Act) (w:World),At ops W n m F M a w->kU C.P a.eval p:=by intro a w z;exact nR):Gx C ops W N n df Q m F M:=aj next h hw TV y ok
end

section
variable{rb:Nat}{mv:Value}
theorem Ls.apartG(h:Ls w Z lv mv ls ms)(hx:Ex X w w')(hl:∀b,lv.ownBlock=some b->¬X b)(hm:∀b,mv.ownBlock=some b->¬X b)(Wx:∀v b,v∈ls->v.ownBlock=some b->¬X b):Ls w' Z lv mv ls ms:=
 ⟨eH h.ol λc _ hc ho=>hx.at (hl c hc) ho,eH h.om λc _ hc ho=>hx.at (hm c hc) ho,h.len,λi v m h1 h2=>(h.all i v m h1 h2).keep λb _ hb ho=>hx.at (Wx v b (aw7 h1) hb) ho,λv b h1 h2=>⟨(h.apart v b h1 h2).1,(h.apart v b h1 h2).2.1,aw2 (h.apart v b h1 h2).2.2 hx.size⟩,h.mw,h.small⟩
end
theorem Hc{base bytes:Nat}{t e:TypeId}{z v':Value}{L news:List Value}(ht:prog.underlying t=some (.slice e))(hi:(prog.info? e).map (λi=>(i.zero,i.size,i.bytes))=some (some z,1,bytes))(To:w.ownsRow base e 1 v n L)(hg:∀j u,news[j]?=some u->w.cell? (ad.add j)=some u)(h1:∀u∈news,u.oneCell'=true)(hm:news.length=m)(hm0:0<m)(hx:ev (.tmp k)=v)(hy:ev (.tmp j)=.slice (some ad) m q)(hn:n+m<=maxLen)(Ym:(n+m)*bytes<=140737488355328)(SS:o.op=.call {callee:=.builtin .append,args:=#[.tmp k,.tmp j],argTypes:=#[t,t]})(Ti:(execOp ev o).run prog w=.ok (.value v') w'):∀b,v'.ownBlock=some b->v.ownBlock=some b\/b=w.heap.size:=by
 obtain⟨i,hi,Uh⟩:=IS.1 hi;simp only[Prod.mk.injEq]at Uh;have ex:execOp ev o=(do pure (.value (←aJ4 #[t,t] o.type #[v,.slice (some ad) m q]))):=by simp[execOp,SS,resolve,hx,hy,invoke,builtin]
 rw[ex]at Ti;have fin:∀{v2:Value} {w2:World},(aJ4 #[t,t] o.type #[v,.slice (some ad) m q]).run prog w=.ok v2 w2->v2=v':=λh=>by
  rw[kx h]at Ti;injection Ti with h1 _;injection h1
 unfold maxLen at hn;rcases To.2 with⟨rfl,rfl⟩|⟨g,cap,cur,rfl,_,h2,h3,h4,h5,h6⟩
 .have:=fin (run_append_nil (P:=prog) w t o.type e i z ht hi Uh.1 ad m q news (by rw[Uh.2.1];omega) hg o_ o_ (by rw[Uh.2.2];simp only[aw9]at Ym;omega));subst this;intro b hb;cases hb;exact .inr rfl
 .by_cases Wt:n+m<=cap
  .have:=fin (run_append_room (P:=prog) w t o.type e i ht hi g n cap cur h2 ad m q news (by rw[Uh.2.1];omega) hg h1 Wt (by rw[Uh.2.1];omega));subst this;intro b hb;exact .inl hb
  .have:=fin (run_append_grow (P:=prog) w t o.type e i z ht hi Uh.1 ⟨g,0,none⟩ n cap L (by rw[Uh.2.1];exact To.1) (To.cells (g:=g) rfl) ad m q news (by rw[Uh.2.1];omega) hg o_ o_ (growslice_fits o_ (by rw[Uh.2.2];exact Ym)));subst this;intro b hb;cases hb;exact .inr rfl
theorem Iz{u:TypeId}(hn:n<1000000000000)(SS:o.op=.binOp .sub 3 x y u)(hx:ev x=.int .i64 (-1000))(hy:ev y=.int .i64 n):(execOp ev o).run prog w=.ok (.value (.int .i64 (-1000-(n:Int)))) w:=by
 have e:ax8.wrap (-1000-(n:Int))= -1000-(n:Int):=by rw[ay4];omega
 simp[execOp,SS,hx,hy,go_sem,e]
def N4(f:Func):Code:=.seq (.seq (rG f 2) (.cond (.tmp 18) .skip (.exit 0))) (.seq (.block 1 (rG f 4)) (rG f 3))
def MY(f:Func):Code:=.seq (rG f 5) (.seq (rG f 6) (.seq (rG f 7) (.seq (rG f 8) (rG f 9))))
theorem NT:f62.body=some (.seq (rG f62 0) (.seq (.seq (rG f62 1) (.block 0 (.loop (N4 f62)))) (MY f62))):=by kernel_rfl
section
variable{rb cap:Nat}{mv:Value}{m:Int}{p0:Value}
theorem Cz(h85:85<=cap)(hcm:cap<=maxLen)(nt:∀a w,qG w g 85 cap m->Ex (· =g) w0 w->aB [(0,p0),(1,.sk g 85 cap),(4,.int .i64 m)] 66 [] a->Rn kX Goal ((base 62).atR a [.code (MY f62)]) cs w):
 ∀(q i:Nat) (w:World) (a:Act),85- i=q->i<=85->(∃cur:Array Value,w.heap[g]?=some (.cells cur 3)/\cur.size=cap/\∀j:Nat,j<i->cur[j]?=some (Value.int .i64 m))->Ex (· =g) w0 w->aB [(0,p0),(1,.sk g 85 cap),(4,.int .i64 m),(5,.int .i64 i)] 66 [] a->Rn kX Goal ((base 62).atR a [.code (N4 f62),.inLoop (N4 f62),.inBlock 0,.code (MY f62)]) cs w:=by
 intro q;induction q with
 |zero=>
  intro i w a hq hi hc hx J;obtain⟨cur,h1,h2,h3⟩:=hc
  iterate 4 refine bX J λa J=>?_
  refine a9 rfl (ak _ (J.Q 18) ?_);rw[decide_eq_false o_];exact a9 rfl (nt _ _ ⟨cur,h1,h85,hcm,h2,λj hj=>h3 j o_⟩ hx (J.only ⟨rfl,rfl,rfl,trivial⟩))
 |succ q ih=>
  intro i w a hq hi hc hx J;obtain⟨cur,h1,h2,h3⟩:=hc
  iterate 4 refine bX J λa J=>?_
  refine a9 rfl (ak _ (J.Q 18) ?_);rw[decide_eq_true o_]
  iterate 3 refine bX J λa J=>?_
  refine ai J (λo ho=>b_ (t:=24) i k_ ho (J.Q 21) (J.Q 22) o_) λa J=>?_;rw[aw9]at J;refine aP J (λo ho=>cI (v:=.int .i64 m) rfl rfl k_ ho (J.Q 24) (J.Q 23) h1 o_) λa J=>?_;refine bX J λa J=>?_;refine ai J (λo ho=>aN (n:=1) ho (J.Q 19) rfl o_) λa J=>?_;refine bX J λa J=>?_;refine a9 rfl (a9 rfl (ih (i+1) _ _ o_ o_ ⟨_,aZ h1,by simpa using h2,λj hj=>?_⟩ (hx.trans (bC _ _ _) λ_ _ e=>e) (J.only ⟨rfl,rfl,rfl,rfl,trivial⟩)));rw[aG_];by_cases e:i=j
  .rw[if_pos e,if_pos o_]
  .rw[if_neg e];exact h3 j o_
theorem Ez{W:List Int}(hp:w.heap[pb]?=some (.cells (td lb rb lv mv) 60))(hL:Ls w Z lv mv ls ms)(Xc:ms.length<=1000000000)(ho:w.ownsRow 0 3 1 (.sk g 85 cap) 85 (aO W))(hgm:mv.ownBlock≠some g)(hwb:∀b,Z b->b<w.heap.size)(hgw:¬Z g)(Zc:∀v,v∈ls->v.ownBlock≠some g):
 Cl kX 62 #[.pk pb 0,.sk g 85 cap] w λe w'=>e=.returned (.tuple #[])/\∃VI VH W3 W9,w'.heap[pb]?=some (.cells (td lb rb VI VH) 60)/\Ls w' Z VI VH W3 W9/\W9.length=ms.length+4/\(∀b,VI.ownBlock=some b->lv.ownBlock=some b\/w.heap.size<=b)/\(∀b,VH.ownBlock=some b->mv.ownBlock=some b\/w.heap.size<=b)/\(∀v b,v∈W3->v.ownBlock=some b->v∈ls\/b=g\/w.heap.size<=b)/\Ex (λb=>b=pb\/b=g\/lv.ownBlock=some b\/mv.ownBlock=some b) w w':=by
 refine dk func62 rfl λcs=>?_;refine bv (N:=66) func62 NT λa J=>?_;obtain⟨pm,cm,emv⟩:=lw hL.om;obtain⟨plv,Rx,elv⟩:=lw hL.ol;obtain⟨hg,TX⟩:(∃cur:Array Value,w.heap[g]?=some (.cells cur 3)/\cur.size=cap)/\85<=cap/\cap<=maxLen:=by
  rcases ho.2 with⟨e,_⟩|⟨g',cap',cur,e,_,e2,e3,e4,e5,_⟩
  .cases e
  .cases e;exact⟨⟨cur,e2,by omega⟩,e3,e4⟩
 obtain⟨gc,hgc,hgz⟩:=hg;have npg:pb≠g:=λe=>by
  rw[e,hgc]at hp;injection hp with hp;injection hp with _ hp;cases hp
 have nlg:∀{e:TypeId} {v:Value} {n:Nat} {xs:List Value} {b:Nat} {c:Array Value} {t:TypeId},w.ownsRow 0 e 1 v n xs->w.heap[b]?=some (.cells c t)->t≠e->v.ownBlock≠some b:=λh1 h2 h3 e=>fo h1 h2 h3 e.symm;have lpb:=nlg hL.ol hp d_;have mpb:=nlg hL.om hp d_;have lg:=nlg hL.ol hgc d_;have gsz:=aA hgc;have psz:=aA hp;rw[emv]at hp
 iterate 4 refine aF J λa J=>?_
 refine aF J λa J=>?_;refine ai J (λo ho=>Iz (n:=ms.length) o_ ho rfl (J.get (d:=13) rfl)) λa J=>?_
 iterate 2 refine aF J λa J=>?_
 generalize-1000-(ms.length:Int)=m at J;refine a9 rfl (a9 rfl (a9 rfl ?_));refine Cz (g:=g) (w0:=w) TX.1 TX.2 (λa w1 F1 x1 J=>?_) 85 0 w _ rfl o_ ⟨gc,hgc,hgz,λj hj=>by omega⟩ Ex.refl (J.only ⟨rfl,rfl,rfl,rfl,trivial⟩);have hp1:=x1.at npg hp;have L1:=hL.apartG x1 (λb hb e=>lg (e▸hb)) (λb hb e=>hgm (e▸hb)) (λv b h1 h2 e=>Zc v h1 (e▸h2));have A1:=F1.is;have s1:=x1.size
 iterate 2 refine aF J λa J=>?_
 refine bA J (λo ho=>li ho (J.get (d:=26) rfl)) λw2 a b2 c2 z2 J=>?_;have up2:∀u,fZ w1 u m->fZ w2 u m:=λu hu=>hu.keep λb o _ ho=>bk b2 ho;have F2:qG w2 g 85 cap m:=let ⟨c,h1,h2⟩:=F1;⟨c,bk b2 h1,h2⟩
 refine dX J (λo SS=>vS (r:=1) F2 (λi hi=>by
  rcases(by omega:i=0)with rfl;rw[az3,ar c2];rfl) o_ (J.get (d:=25) rfl) (J.get (d:=27) rfl) o SS) λva w3 ⟨Aa,⟨ba,ea,na,la⟩,⟨pa,qa,ea'⟩,F3,up3,x3⟩ a J=>?_
 subst ea'
 iterate 4 refine aF J λa J=>?_
 refine bA J (λo ho=>Ji ho (J.get (d:=30) rfl) (J.get (d:=31) rfl)) λw4 a b4 c4 z4 J=>?_;have up4:∀u,fZ w3 u m->fZ w4 u m:=λu hu=>hu.keep λb o _ ho=>bk b4 ho;have F4:qG w4 g 85 cap m:=let ⟨c,h1,h2⟩:=F3;⟨c,bk b4 h1,h2⟩
 refine dX J (λo SS=>vS (r:=2) F4 (λi hi=>by
  rcases(by omega:i=0\/i=1)with rfl|rfl<;>(rw[az3,ar c4];rfl)) o_ (J.get (d:=29) rfl) (J.get (d:=32) rfl) o SS) λvb w5 ⟨Ab,⟨bb,eb,nb,lb'⟩,⟨Zq,qb,eb'⟩,F5,up5,x5⟩ a J=>?_
 subst eb'
 iterate 5 refine aF J λa J=>?_
 refine bA J (λo ho=>Jh ho (J.get (d:=35) rfl) (J.get (d:=36) rfl) (J.get (d:=37) rfl)) λw6 a b6 c6 z6 J=>?_;have up6:∀u,fZ w5 u m->fZ w6 u m:=λu hu=>hu.keep λb o _ ho=>bk b6 ho;have F6:qG w6 g 85 cap m:=let ⟨c,h1,h2⟩:=F5;⟨c,bk b6 h1,h2⟩
 refine dX J (λo SS=>vS (r:=3) F6 (λi hi=>by
  rcases(by omega:i=0\/i=1\/i=2)with rfl|rfl|rfl<;>(rw[az3,ar c6];rfl)) o_ (J.get (d:=34) rfl) (J.get (d:=38) rfl) o SS) λvd w7 ⟨Ad,⟨bd,ed,nd,ld⟩,⟨pd,qd,ed'⟩,F7,up7,x7⟩ a J=>?_
 subst ed';have z3:=x3.size;have z5:=x5.size;have z7:=x7.size;have X7:Ex (· =g) w w7:=(((((x1.trans (an (X:=(· =g)) b2) λ_ _ e=>e).trans x3 λ_ _ e=>e).trans (an (X:=(· =g)) b4) λ_ _ e=>e).trans x5 λ_ _ e=>e).trans (an (X:=(· =g)) b6) λ_ _ e=>e).trans x7 λ_ _ e=>e;have L7:=hL.apartG X7 (λb hb e=>lg (e▸hb)) (λb hb e=>hgm (e▸hb)) (λv b h1 h2 e=>Zc v h1 (e▸h2));have hp7:=X7.at npg hp;have A7:fZ w7 (.sk g 85 cap) m:=F7.is;have Aa7:fZ w7 (.slice pa (85+1) qa) m:=up7 _ (up6 _ (up5 _ (up4 _ Aa)));have Ab7:fZ w7 (.slice Zq (85+2) qb) m:=up7 _ (up6 _ Ab)
 iterate 6 refine aF J λa J=>?_
 iterate 4 refine aF J λa J=>?_
 refine bA J (λo ho=>Jf ho (J.get (d:=45) rfl) (J.get (d:=46) rfl) (J.get (d:=47) rfl) (J.get (d:=48) rfl)) λw8 a b8 c8 z8 J=>?_;have L8:=L7.below b8;have hp8:=bk b8 hp7;have up8:∀u,fZ w7 u m->fZ w8 u m:=λu hu=>hu.keep λb o _ ho=>bk b8 ho;have nw:∀(j:Nat) u,([.sk g 85 cap,.slice pa (85+1) qa,.slice Zq (85+2) qb,.slice pd (85+3) qd]:List Value)[j]?=some u->w8.cell? ((⟨w7.heap.size,0,none⟩:Addr).add j)=some u:=λj u hu=>by
  rw[az3,aw9,ar c8];simpa using hu
 refine dX (R:=λv' w'=>w'.ownsRow 0 24 1 v' (ls.length+4) (ls++[.sk g 85 cap,.slice pa (85+1) qa,.slice Zq (85+2) qb,.slice pd (85+3) qd])/\w8.grownBy w' lv.ownBlock/\∀b,v'.ownBlock=some b->lv.ownBlock=some b\/b=w8.heap.size) J (λo SS e'=>by
  obtain⟨v',w',r1,r2,_,r4⟩:=lN (t:=58) (z:=.slice none 0 0) (bytes:=24) (m:=4) (q:=4) k_ k_ rfl L8.ol nw (by simp[ax4]) rfl (J.get (d:=44) rfl) (J.get (d:=49) rfl) (by unfold maxLen;have:=hL.len;omega) (by have:=hL.len;omega) (ay7 _) o SS e';exact⟨v',w',r1,r2,r4,Hc (w:={w8 with drawn:=e'}) (t:=58) (z:=.slice none 0 0) (bytes:=24) (m:=4) (q:=4) k_ k_ L8.ol nw (by simp[ax4]) rfl o_ (J.get (d:=44) rfl) (J.get (d:=49) rfl) (by unfold maxLen;have:=hL.len;omega) (by have:=hL.len;omega) SS r1⟩) λv9 w9 ⟨o9,g9,k9⟩ a J=>?_
 obtain⟨p9,q9,rfl⟩:=lw o9;have hp9:=(g9.block pb (aA hp8) (fo L8.ol hp8 d_)).trans hp8;have up9:∀u,fZ w8 u m->fZ w9 u m:=λu hu=>hu.keep λb o _ ho=>(g9.block b (aA ho) (fo L8.ol ho d_)).trans ho
 iterate 2 refine aF J λa J=>?_
 refine aP J (λo ho=>cI rfl rfl k_ ho (J.get (d:=52) rfl) (J.get (d:=50) rfl) hp9 (by decide:2<4)) λa J=>?_;rw[show(td lb rb lv (.slice pm ms.length cm)).setIfInBounds 2 (.slice p9 (ls.length+4) q9)=td lb rb (.slice p9 (ls.length+4) q9) (.slice pm ms.length cm)from rfl];have o10:=eZ (ds:=td lb rb (.slice p9 (ls.length+4) q9) (.slice pm ms.length cm)) o9 hp9 d_;have om9:=m4 (emv▸L8.om) L8.ol d_ g9;have Zu:=eZ (ds:=td lb rb (.slice p9 (ls.length+4) q9) (.slice pm ms.length cm)) om9 hp9 d_;have ZI:=aZ (cs:=td lb rb (.slice p9 (ls.length+4) q9) (.slice pm ms.length cm)) (t:=60) hp9;have x10:=bC (w:=w9) pb (td lb rb (.slice p9 (ls.length+4) q9) (.slice pm ms.length cm)) 60;have nint:∀{b:Nat} {c:Array Value},w9.heap[b]?=some (.cells c 3)->¬b=pb:=λhb e=>by
  rw[e,hp9]at hb;injection hb with hb;injection hb with _ hb;cases hb
 have Yd:∀(i:Nat) v m',ls[i]?=some v->ms[i]?=some m'->fZ (put w9 pb (td lb rb (.slice p9 (ls.length+4) q9) (.slice pm ms.length cm)) 60) v m':=λi v m' h1 h2=>((L8.all i v m' h1 h2).keep λb o _ ho=>(g9.block b (aA ho) (fo L8.ol ho d_)).trans ho).keep λb o _ ho=>x10.at (nint ho) ho;have WF:∀u,fZ w9 u m->fZ (put w9 pb (td lb rb (.slice p9 (ls.length+4) q9) (.slice pm ms.length cm)) 60) u m:=λu hu=>hu.keep λb o _ ho=>x10.at (nint ho) ho;have z9:=g9.size;have z10:=x10.size;have X10:Ex (λb=>b=pb\/b=g\/lv.ownBlock=some b\/mv.ownBlock=some b) w (put w9 pb (td lb rb (.slice p9 (ls.length+4) q9) (.slice pm ms.length cm)) 60):=(((Ex.wide X7 λb _ e=>.inr (.inl e)).trans (an (X:=λ_=>False) b8) λ_ _ e=>e.elim).trans (⟨g9.os,g9.output,g9.tape,g9.size,λb hb hx=>g9.block b hb λe=>hx e.symm⟩:Ex (λb=>lv.ownBlock=some b) w8 w9) λb _ e=>.inr (.inr (.inl e))).trans x10 λb _ e=>.inl e;revert o10 Zu ZI Yd WF z10 X10;generalize put w9 pb (td lb rb (.slice p9 (ls.length+4) q9) (.slice pm ms.length cm)) 60=W_;intro o10 Zu ZI Yd WF z10 X10
 iterate 5 refine aF J λa J=>?_
 iterate 4 refine aF J λa J=>?_
 refine bA J (λo ho=>Jg ho (J.get (d:=58) rfl) (J.get (d:=59) rfl) (J.get (d:=60) rfl) (J.get (d:=61) rfl)) λZp a UI WE z11 J=>?_;have Zt:=cG Zu UI;have hp11:=bk UI ZI;have nw2:∀(j:Nat) u,(aO [m,m,m,m])[j]?=some u->Zp.cell? ((⟨W_.heap.size,0,none⟩:Addr).add j)=some u:=λj u hu=>by
  rw[az3,aw9,ar WE];simpa[aO]using hu
 refine dX (R:=λv' w'=>w'.ownsRow 0 3 1 v' (ms.length+4) (aO ms++aO [m,m,m,m])/\Zp.grownBy w' mv.ownBlock/\∀b,v'.ownBlock=some b->mv.ownBlock=some b\/b=Zp.heap.size) J (λo SS e'=>by
  obtain⟨v',w',r1,r2,_,r4⟩:=lN (t:=24) (z:=.int .i64 0) (bytes:=8) (m:=4) (q:=4) k_ k_ rfl Zt nw2 (j5 _) rfl (J.get (d:=57) rfl) (J.get (d:=62) rfl) (by unfold maxLen;omega) o_ (ay7 _) o SS e';rw[←emv]at r4;refine⟨v',w',r1,r2,r4,?_⟩;have:=Hc (w:={Zp with drawn:=e'}) (t:=24) (z:=.int .i64 0) (bytes:=8) (m:=4) (q:=4) k_ k_ Zt nw2 (j5 _) rfl o_ (J.get (d:=57) rfl) (J.get (d:=62) rfl) (by unfold maxLen;omega) o_ SS r1;rw[←emv]at this;exact this) λv12 w12 ⟨o12,Yb,k12⟩ a J=>?_
 obtain⟨p12,q12,rfl⟩:=lw o12;have mlt:∀b,mv.ownBlock=some b->b<w.heap.size:=λb hb=>mG hL.om hb;have XM:=(Yb.block pb (aA hp11) (λe=>mpb e.symm)).trans hp11
 iterate 2 refine aF J λa J=>?_
 refine aP J (λo ho=>cI rfl rfl k_ ho (J.get (d:=65) rfl) (J.get (d:=63) rfl) XM (by decide:3<4)) λa J=>?_;rw[show(td lb rb (.slice p9 (ls.length+4) q9) (.slice pm ms.length cm)).setIfInBounds 3 (.slice p12 (ms.length+4) q12)=td lb rb (.slice p9 (ls.length+4) q9) (.slice p12 (ms.length+4) q12)from rfl];have x13:=bC (w:=w12) pb (td lb rb (.slice p9 (ls.length+4) q9) (.slice p12 (ms.length+4) q12)) 60;have nint2:∀{b:Nat} {c:Array Value},w12.heap[b]?=some (.cells c 3)->¬b=pb:=λhb e=>by
  rw[e,XM]at hb;injection hb with hb;injection hb with _ hb;cases hb
 have up13:∀u m',(∀b,u.ownBlock=some b->mv.ownBlock≠some b)->fZ W_ u m'->fZ (put w12 pb (td lb rb (.slice p9 (ls.length+4) q9) (.slice p12 (ms.length+4) q12)) 60) u m':=λu m' T2 hu=>by
  refine((hu.keep λb o _ ho=>bk UI ho).keep λb o hb ho=>?_).keep λb o _ ho=>x13.at (nint2 ho) ho;exact(Yb.block b (aA ho) λe=>T2 b hb e.symm).trans ho
 have Zv:∀{u:Value} {b:Nat},u∈([.sk g 85 cap,.slice pa (85+1) qa,.slice Zq (85+2) qb,.slice pd (85+3) qd]:List Value)->u.ownBlock=some b->(b=g\/w.heap.size<=b)/\b<W_.heap.size:=λ{u b} hu hb=>by
  simp only[aC7,aD1,or_false]at hu;rcases hu with rfl|rfl|rfl|rfl
  .have hb:some g=some b:=hb;cases hb;exact⟨.inl rfl,by omega⟩
  .rw[ea]at hb;cases hb;exact⟨na.imp id λh=>by omega,by omega⟩
  .rw[eb]at hb;cases hb;exact⟨nb.imp id λh=>by omega,by omega⟩
  .rw[ed]at hb;cases hb;exact⟨nd.imp id λh=>by omega,by omega⟩
 have newm:∀{u:Value} {b:Nat},u∈([.sk g 85 cap,.slice pa (85+1) qa,.slice Zq (85+2) qb,.slice pd (85+3) qd]:List Value)->u.ownBlock=some b->mv.ownBlock≠some b:=λ{u b} hu hb e=>by
  have:=mlt b e;rcases(Zv hu hb).1 with rfl|h
  .exact hgm e
  .omega
 have newA:∀{u:Value},u∈([.sk g 85 cap,.slice pa (85+1) qa,.slice Zq (85+2) qb,.slice pd (85+3) qd]:List Value)->fZ W_ u m:=λ{u} hu=>by
  simp only[aC7,aD1,or_false]at hu;rcases hu with rfl|rfl|rfl|rfl
  .exact WF _ (up9 _ (up8 _ A7))
  .exact WF _ (up9 _ (up8 _ Aa7))
  .exact WF _ (up9 _ (up8 _ Ab7))
  .exact WF _ (up9 _ (up8 _ Ad))
 have z12:=Yb.size;have z13:=x13.size;refine oA J ⟨rfl,_,_,ls++[.sk g 85 cap,.slice pa (85+1) qa,.slice Zq (85+2) qb,.slice pd (85+3) qd],ms++[m,m,m,m],aZ XM,⟨?_,?_,?_,?_,?_,?_,?_⟩,by simp,λb hb=>(k9 b hb).imp id λh=>by omega,λb hb=>(k12 b hb).imp id λh=>by omega,?_,?_⟩
 .rw[BY];exact eZ (m4 (cG o10 UI) (emv.symm▸Zt) d_ Yb) XM d_
 .rw[BY,show aO (ms++[m,m,m,m])=aO ms++aO [m,m,m,m]from aC1 ..];exact eZ o12 XM d_
 .rw[BY,BY,hL.len];rfl
 .intro i v m' h1 h2;by_cases hi:i<ls.length
  .rw[If hi]at h1;rw[If (by rw[←hL.len];exact hi)]at h2;exact up13 v m' (λb hb=>(hL.apart v b (aw7 h1) hb).1) (Yd i v m' h1 h2)
  .rw[aA5 o_]at h1;rw[aA5 (by rw[←hL.len];omega)]at h2;have hv:=aw7 h1;have hm':m'=m:=by
    have:=aw7 h2;simpa using this
   rw[hm'];exact up13 v m (λb hb=>newm hv hb) (newA hv)
 .intro v b hv hb;have m12:∀b,b<Zp.heap.size->mv.ownBlock≠some b->(aR0 p12 (ms.length+4) q12).ownBlock≠some b:=λb h1 h2 e=>(k12 b e).elim h2 λh=>by omega
  rcases aN7.1 hv with hv|hv
  .obtain⟨a1,a2,a3⟩:=hL.apart v b hv hb;exact⟨m12 b o_ a1,a2,by omega⟩
  .obtain⟨a1,a2⟩:=Zv hv hb;exact⟨m12 b o_ (newm hv hb),λhz=>a1.elim (λh=>hgw (h▸hz)) λh=>by have:=hwb b hz;omega,by omega⟩
 .exact λb e hz=>(k12 b e).elim (λh=>hL.mw b h hz) λh=>by have:=hwb b hz;omega
 .intro v hv;rcases aN7.1 hv with hv|hv
  .exact hL.small v hv
  .simp only[aC7,aD1,or_false]at hv;rcases hv with rfl|rfl|rfl|rfl<;>exact⟨_,_,_,rfl,by omega⟩
 .intro v b hv hb;rcases aN7.1 hv with hv|hv
  .exact .inl hv
  .exact .inr (Zv hv hb).1
 .exact((X10.trans (an (X:=λ_=>False) UI) λ_ _ e=>e.elim).trans (⟨Yb.os,Yb.output,Yb.tape,Yb.size,λb hb hx=>Yb.block b hb λe=>hx e.symm⟩:Ex (λb=>mv.ownBlock=some b) Zp w12) λb _ e=>.inr (.inr (.inr e))).trans x13 λb _ e=>.inl e
end

def N5(f:Func):Code:=.seq (.seq (rG f 4) (.cond (.tmp 14) .skip (.exit 0))) (.seq (.block 1 (.seq (rD f 6) (.cond (.tmp 25) (.seq (rG f 7) .ret) .skip))) (rG f 5))
def Qe(f:Func):Code:=.seq (rG f 8) .ret
theorem NV:f61.body=some (.seq (rG f61 0) (.seq (.seq (rG f61 1) (.cond (.tmp 10) (.seq (rG f61 2) .ret) .skip)) (.seq (.seq (rG f61 3) (.block 0 (.loop (N5 f61)))) (Qe f61)))):=by kernel_rfl
section
variable{W:List Int}{va vb:Value}
theorem CK{pa pb:Option Addr}{qa qb:Nat}(hW:W.length<=1000)(hA:cV w0 (.slice pa W.length qa) (aO W))(hB:cV w0 (.slice pb W.length qb) (aO W))(nt:∀a w I,Bw w0 w->aB [(4,.bool true)] 26 [] a->Rn kX Goal ((base 61).atR a (.code .ret::I)) cs w):
 ∀(q i:Nat) (w:World) (a:Act),W.length- i=q->i<=W.length->Bw w0 w->aB [(0,.slice pa W.length qa),(1,.slice pb W.length qb),(5,.int .i64 i)] 26 [] a->Rn kX Goal ((base 61).atR a [.code (N5 f61),.inLoop (N5 f61),.inBlock 0,.code (Qe f61)]) cs w:=by
 obtain⟨_,_,ea,ca⟩:=hA;obtain⟨_,_,eb,cb⟩:=hB;injection ea with ea;injection eb with eb;subst ea eb;intro q;induction q with
 |zero=>
  intro i w a hq hi hb J
  iterate 4 refine aF J λa J=>?_
  refine a9 rfl (ak _ (J.Q 14) ?_);rw[decide_eq_false o_];refine aF J λa J=>?_;exact a9 rfl (nt _ _ _ hb (J.only ⟨rfl,trivial⟩))
 |succ q ih=>
  intro i w a hq hi hb J;have Tj:i<W.length:=by omega
  have hu:(aO W)[i]?=some (.int .i64 W[i]):=by simp[aO,Tj]
  obtain⟨ada,rfl,da⟩:=ca i _ hu;obtain⟨adb,rfl,db⟩:=cb i _ hu
  iterate 4 refine aF J λa J=>?_
  refine a9 rfl (ak _ (J.Q 14) ?_);rw[decide_eq_true o_];have J:aB [(0,.slice (some ada) W.length qa),(1,.slice (some adb) W.length qb),(5,.int .i64 i)] 26 [] a:=J.only ⟨rfl,rfl,rfl,trivial⟩
  iterate 4 refine a9 rfl ?_
  refine cC J ?_
  iterate 2 refine cQ ?_
  refine aj ?_ (y:=λo a w ho z=>(bR (t:=24) (e:=3) k_ (λw=>by kernel_rfl) ho gx gx Tj).1);refine aj ?_ (y:=λo a w ho z=>(av aC ho gx (aU z.b (aU hb da))).1)
  iterate 2 refine cQ ?_
  refine aj ?_ (y:=λo a w ho z=>(bR (t:=24) (e:=3) k_ (λw=>by kernel_rfl) ho gx gx Tj).1);refine aj ?_ (y:=λo a w ho z=>(av aC ho gx (aU z.b (aU hb db))).1);refine cQ ?_;rw[show(W[i] !=W[i])=false from by simp];refine cc λa w1 J b1 _=>?_;refine ak _ (J.Q 25) ?_;refine aF J λa J=>?_;refine ai J (λo ho=>aN (n:=1) ho (J.Q 15) rfl o_) λa J=>?_;refine aF J λa J=>?_;exact a9 rfl (a9 rfl (ih (i+1) w1 _ o_ o_ (ae hb hb.size b1) (J.only ⟨rfl,rfl,rfl,trivial⟩)))
theorem nm(hW:W.length<=1000)(hA:cV w va (aO W))(hB:cV w vb (aO W)):Cl kX 61 #[va,vb] w λe w'=>e=.returned (.bool true)/\Bw w w':=by
 obtain⟨pa,qa,ea,_⟩:=id hA;obtain⟨pb,qb,eb,_⟩:=id hB;have hl:(aO W).length=W.length:=by simp[aO]
 rw[hl]at ea eb;subst ea eb;refine az (N:=26) func61 NV λcs a J=>?_
 iterate 6 refine aF J λa J=>?_
 rw[show(((W.length:Nat):Int) !=(W.length:Nat))=false from by simp]at J;refine a9 rfl (ak _ (J.Q 10) ?_);refine aF J λa J=>?_;exact a9 rfl (a9 rfl (a9 rfl (CK hW hA hB (λa w' I hb J=>aH J ⟨rfl,hb⟩) W.length 0 w _ o_ o_ (aw8 _ _) (J.only ⟨rfl,rfl,rfl,trivial⟩))))
end
def Na(f:Func):Code:=.seq (.seq (rG f 5) (.cond (.tmp 23) .skip (.exit 2))) (.seq (.block 3 (.seq (rD f 7) (.cond (.tmp 43) (.seq (rG f 8) .ret) .skip))) (rG f 6))
def N9(f:Func):Code:=.seq (.seq (rG f 2) (.cond (.tmp 11) .skip (.exit 0))) (.seq (.block 1 (.seq (rG f 4) (.block 2 (.loop (Na f))))) (rG f 3))
def Qg(f:Func):Code:=.seq (rG f 9) .ret
theorem Of:f26.body=some (.seq (rG f26 0) (.seq (.seq (rG f26 1) (.block 0 (.loop (N9 f26)))) (Qg f26))):=by kernel_rfl
section
variable{rb:Nat}{mv:Value}
theorem JV{pA:Option Addr}{ql:Nat}{pv:Option Addr}{qv:Nat}{pm:Option Addr}{qm:Nat}{m:Int}{I:List Item}(hp:w0.heap[pb]?=some (.cells (td lb rb (.slice pA ls.length ql) (.slice pm ms.length qm)) 60))(hi:i<ls.length)(WM:i<ms.length)(adl adm:Addr)(el:pA=some adl)(em:pm=some adm)(cl:w0.cell? (adl.add i)=some (.slice pv n qv))(cm:w0.cell? (adm.add i)=some (.int .i64 m))(hn:n<=1000)(hA:∀k:Nat,k<n->∃ad,pv=some ad/\w0.cell? (ad.add k)=some (.int .i64 m))
 (nt:∀a w,Bw w0 w->aB [(0,.pk pb 0),(3,.int .i64 i)] 44 [] a->Rn kX Goal ((base 26).atR a (.inBlock 1::I)) cs w):
 ∀(q k:Nat) (w:World) (a:Act),n- k=q->k<=n->Bw w0 w->aB [(0,.pk pb 0),(3,.int .i64 i),(4,.int .i64 k)] 44 [] a->Rn kX Goal ((base 26).atR a (.code (Na f26):: .inLoop (Na f26):: .inBlock 2:: .inBlock 1::I)) cs w:=by
 subst el em;have hd:∀{w:World} {a:Act} {k:Nat} {a02:List Item},Bw w0 w->aB [(0,.pk pb 0),(3,.int .i64 i),(4,.int .i64 k)] 44 [] a->(∀a,aB [(23,.bool (decide ((k:Int)<n))),(0,.pk pb 0),(3,.int .i64 i),(4,.int .i64 k)] 44 [] a->Rn kX Goal ((base 26).atR a (.inRegion (bM f26 5) []:: .code (.cond (.tmp 23) .skip (.exit 2))::a02)) cs w)->Rn kX Goal ((base 26).atR a (.code (.seq (rG f26 5) (.cond (.tmp 23) .skip (.exit 2)))::a02)) cs w:=λ{w a k a02} hb J nx=>by
  have hp':=bk hb hp
  iterate 6 refine aF J λa J=>?_
  refine ai J (λo ho=>(bR (t:=58) (e:=24) k_ (λw=>by kernel_rfl) ho (J.Q 18) (J.Q 19) hi).1) λa J=>?_;refine ai J (λo ho=>(av vp ho (J.Q 20) (aU hb cl)).1) λa J=>?_
  iterate 2 refine aF J λa J=>?_
  exact nx _ (J.only ⟨rfl,rfl,rfl,rfl,trivial⟩)
 intro q;induction q with
 |zero=>
  intro k w a hq hk hb J;refine a9 rfl (hd hb J λa J=>?_);refine a9 rfl (ak _ (J.Q 23) ?_);rw[decide_eq_false o_];exact a9 rfl (nt _ _ hb (J.only ⟨rfl,rfl,trivial⟩))
 |succ q ih=>
  intro k w a hq hk hb J;obtain⟨ad,rfl,ck⟩:=hA k o_;have hp':=bk hb hp;refine a9 rfl (hd hb J λa J=>?_);refine a9 rfl (ak _ (J.Q 23) ?_);rw[decide_eq_true o_];have J:aB [(0,.pk pb 0),(3,.int .i64 i),(4,.int .i64 k)] 44 [] a:=J.only ⟨rfl,rfl,rfl,trivial⟩
  iterate 4 refine a9 rfl ?_
  refine cC J ?_
  iterate 3 refine cQ ?_
  refine aj ?_ (y:=λo a w ho z=>(av FJ ho gx ((ar (bk z.b hp') 2).trans rfl)).1);refine cQ ?_;refine aj ?_ (y:=λo a w ho z=>(bR (t:=58) (e:=24) k_ (λw=>by kernel_rfl) ho gx gx hi).1);refine aj ?_ (y:=λo a w ho z=>(av vp ho gx (aU z.b (aU hb cl))).1);refine cQ ?_;refine aj ?_ (y:=λo a w ho z=>(bR (t:=24) (e:=3) k_ (λw=>by kernel_rfl) ho gx gx o_).1);refine aj ?_ (y:=λo a w ho z=>(av aC ho gx (aU z.b (aU hb ck))).1)
  iterate 3 refine cQ ?_
  refine aj ?_ (y:=λo a w ho z=>(av vp ho gx ((ar (bk z.b hp') 3).trans rfl)).1);refine cQ ?_;refine aj ?_ (y:=λo a w ho z=>(bR (t:=24) (e:=3) k_ (λw=>by kernel_rfl) ho gx gx WM).1);refine aj ?_ (y:=λo a w ho z=>(av aC ho gx (aU z.b (aU hb cm))).1);refine cQ ?_;rw[show(m !=m)=false from by simp];refine cc λa w1 J b1 _=>?_;refine ak _ (J.Q 43) ?_;refine aF J λa J=>?_;refine ai J (λo ho=>aN (n:=1) ho (J.Q 24) rfl o_) λa J=>?_;refine aF J λa J=>?_;exact a9 rfl (a9 rfl (ih (k+1) w1 _ o_ o_ (ae hb hb.size b1) (J.only ⟨rfl,rfl,rfl,trivial⟩)))
theorem Gc(hp:w0.heap[pb]?=some (.cells (td lb rb lv mv) 60))(hL:Ls w0 Z lv mv ls ms)(Xc:ms.length<=1000000000)(nt:∀a w I,Bw w0 w->aB [(2,.bool true)] 44 [] a->Rn kX Goal ((base 26).atR a (.code .ret::I)) cs w):
 ∀(q i:Nat) (w:World) (a:Act),ls.length- i=q->i<=ls.length->Bw w0 w->aB [(0,.pk pb 0),(3,.int .i64 i)] 44 [] a->Rn kX Goal ((base 26).atR a [.code (N9 f26),.inLoop (N9 f26),.inBlock 0,.code (Qg f26)]) cs w:=by
 obtain⟨pA,ql,el,cl⟩:=oP hL.ol;obtain⟨pm,qm,em,cm⟩:=oP hL.om;rw[show(aO ms).length=ms.length from by simp[aO]]at em;rw[el,em]at hp;have hlen:=hL.len;intro q;induction q with
 |zero=>
  intro i w a hq hi hb J;have hp':=bk hb hp
  iterate 7 refine aF J λa J=>?_
  refine a9 rfl (ak _ (J.Q 11) ?_);rw[decide_eq_false o_];refine aF J λa J=>?_;exact a9 rfl (nt _ _ _ hb (J.only ⟨rfl,trivial⟩))
 |succ q ih=>
  intro i w a hq hi hb J;have Tj:i<ls.length:=by omega
  have hp':=bk hb hp;obtain⟨adl,al,dl⟩:=cl i ls[i] (aw3 Tj);obtain⟨adm,am,dm⟩:=cm i (.int .i64 ms[i]) (by simp[aO,show i<ms.length by omega]);obtain⟨pv,n,qv,ev,hn⟩:=hL.small ls[i] (aH0 Tj);obtain⟨pv',n',qv',ev',hA⟩:=hL.all i ls[i] ms[i] (aw3 Tj) (aw3 o_);rw[ev]at ev';injection ev' with e1 e2 e3;subst e1 e2 e3;rw[ev]at dl
  iterate 7 refine aF J λa J=>?_
  refine a9 rfl (ak _ (J.Q 11) ?_);rw[decide_eq_true o_];refine aF J λa J=>?_
  iterate 3 refine a9 rfl ?_
  refine JV (w0:=w0) (m:=ms[i]) hp Tj o_ adl adm al am dl dm hn (λk hk=>?_) (λa w1 b1 J=>?_) n 0 w _ o_ o_ hb (J.only ⟨rfl,rfl,rfl,trivial⟩)
  .obtain⟨b,cur,h1,h2,h3⟩:=hA k hk;exact⟨_,h1,by rw[az3,aw9,ar h2];exact h3⟩
  refine aF J λa J=>?_;refine ai J (λo ho=>aN (n:=1) ho (J.Q 12) rfl o_) λa J=>?_;refine aF J λa J=>?_;exact a9 rfl (a9 rfl (ih (i+1) w1 _ o_ o_ b1 (J.only ⟨rfl,rfl,trivial⟩)))
theorem ub(hp:w.heap[pb]?=some (.cells (td lb rb lv mv) 60))(hL:Ls w Z lv mv ls ms)(Xc:ms.length<=1000000000):Cl kX 26 #[.pk pb 0] w λe w'=>e=.returned (.bool true)/\Bw w w':=by
 refine az (N:=44) func26 Of λcs a J=>?_
 iterate 2 refine aF J λa J=>?_
 exact a9 rfl (a9 rfl (a9 rfl (Gc hp hL Xc (λa w' I hb J=>aH J ⟨rfl,hb⟩) ls.length 0 w _ o_ o_ (aw8 _ _) (J.only ⟨rfl,rfl,trivial⟩))))
end

def dZ(w:World)(b:Nat)(L:List Int):Prop:=∃cur:Array Value,w.heap[b]?=some (.cells cur 3)/\∀(i:Nat) x,L[i]?=some x->cur[i]?=some (Value.int .i64 x)
def Zs(wb hb tb:Nat)(b:Nat):Prop:=b=wb\/b=hb\/b=tb
section
variable{L:List Int}
theorem dZ.keep(h:dZ w b L)(hx:Ex X w w')(hn:¬X b):dZ w' b L:=let ⟨c,h1,h2⟩:=h;⟨c,hx.at hn h1,h2⟩
theorem dZ.rng(h:dZ w b L):w.rangeAt b 0 (L.map (Value.int .i64)):=λj v hv=>by
 obtain⟨c,h1,h2⟩:=h;rw[List.getElem?_map,IS]at hv;obtain⟨x,hx,rfl⟩:=hv;rw[aw9,ar h1];exact h2 j x hx
theorem dZ.lt(h:dZ w b L):b<w.heap.size:=let ⟨_,h1,_⟩:=h;aA h1
theorem dZ.is(h:dZ w b L)(q:Nat):cV w (.sk b L.length q) (aO L):=⟨some ⟨b,0,none⟩,q,by simp[aO],λi u hu=>⟨⟨b,0,none⟩,rfl,by rw[az3];exact h.rng i u hu⟩⟩
end
structure fY (w:World) (pb lb cb fb fq rb fr Tp wb qw kb qk hb hq tb tq:Nat) (KS V K:List Int) (L:ByteArray) (on:Bool) (sl:Int) (up:Bool) (rs:Int) (lv mv:Value) (ls:List Value) (ms:List Int):Prop where
 pr:w.heap[pb]?=some (.cells (td lb rb lv mv) 60)
 lin:w.heap[lb]?=some (.cells #[.pk cb 0] 127)
 ch:i8 w cb (.sk fb L.size fq) V K on sl
 fls:j7 w (.sk fb L.size fq) L
 ref:w.heap[rb]?=some (.cells (kR (.sk hb 8 hq) (.sk tb 64 tq) (.sk fr L.size Tp) (.sk wb 85 qw) (.sk kb 16 qk) up rs) 107)
 rfs:j7 w (.sk fr L.size Tp) L
 wds:dZ w wb V
 kpt:uy w kb qk K
 hsh:dZ w hb H0
 tab:dZ w tb KS
 lst:Ls w (Zs wb hb tb) lv mv ls ms
 nk:kb≠fb/\kb≠fr/\fb≠fr
theorem j7.keepB(h:j7 w (.sk fb n fq) L)(hx:Ex X w w')(hn:¬X fb):j7 w' (.sk fb n fq) L:=by
 obtain⟨h0,f,c,cells,fr,e,h1,h2,h3⟩:=h;cases e;exact⟨h0,fb,fq,cells,fr,rfl,h1,hx.at hn h2,h3⟩
section
variable{rb fr hb:Nat}{V K:List Int}{on:Bool}{up:Bool}{mv:Value}
theorem fY.ex(h:fY w pb lb cb fb fq rb fr Tp wb qw kb qk hb hq tb tq KS V K L on sl up rs lv mv ls ms)(hx:Ex X w w')(hn:¬X lb/\¬X cb/\¬X fb/\¬X rb/\¬X fr/\¬X wb/\¬X kb/\¬X hb/\¬X tb){VI VH:Value}{W3:List Value}{W9:List Int}(hp:w'.heap[pb]?=some (.cells (td lb rb VI VH) 60))(hl:Ls w' (Zs wb hb tb) VI VH W3 W9):fY w' pb lb cb fb fq rb fr Tp wb qw kb qk hb hq tb tq KS V K L on sl up rs VI VH W3 W9:=
 let ⟨n1,n2,n3,n4,n5,n6,n7,n8,n9⟩:=hn
 ⟨hp,hx.at n1 h.lin,h.ch.ex hx n2,h.fls.keepB hx n3,hx.at n4 h.ref,h.rfs.keepB hx n5,h.wds.keep hx n6,h.kpt.keep hx n7,h.hsh.keep hx n8,h.tab.keep hx n9,hl,h.nk⟩
theorem fY.below(h:fY w pb lb cb fb fq rb fr Tp wb qw kb qk hb hq tb tq KS V K L on sl up rs lv mv ls ms)(Ud:Bw w w'):fY w' pb lb cb fb fq rb fr Tp wb qw kb qk hb hq tb tq KS V K L on sl up rs lv mv ls ms:=
 h.ex (an (X:=λ_=>False) Ud) ⟨λe=>e,λe=>e,λe=>e,λe=>e,λe=>e,λe=>e,λe=>e,λe=>e,λe=>e⟩ (bk Ud h.pr) (h.lst.below Ud)
end
def yx(k A B D:Int)(p:Option Addr)(n q:Nat):Array Value:=#[.int .i64 k,.int .i64 A,.int .i64 B,.int .i64 D,.slice p n q]
def Su(k:Int):Array Value:=yx k 0 0 0 none 0 0
theorem Bh(SS:o.op=.fieldAddr 70 x 0)(hx:ev x=.pk b 0):(execOp ev o).run prog w=.ok (.value (.pk b 0)) w:=by
 have e:execOp ev o=(do pure (.value (←aw1 70 (.pk b 0) 0))):=by simp only[execOp,SS,hx]
 have h2:(do pure (.value (←aw1 70 (.pk b 0) 0)):Sem Next).run prog w=.ok (.value (.pk b 0)) w:=by kernel_rfl
 rw[e,h2]
theorem yX{k:Int}(SS:o.op=.build 70 #[(0,x)])(hx:ev x=.int .i64 k):(execOp ev o).run prog w=.ok (.value (.agg (Su k))) w:=by
 have e:execOp ev o=(do pure (.value (←ax9 70 #[(0,.int .i64 k)]))):=by simp[execOp,SS,hx]
 have h2:(do pure (.value (←ax9 70 #[(0,.int .i64 k)])):Sem Next).run prog w=.ok (.value (.agg (Su k))) w:=by kernel_rfl
 rw[e,h2]
def Sr(f:Func):Code:=(.seq (rG f 15) (.cond (.tmp 81) (.seq (rG f 16) (.seq (rG f 17) .ret)) (.seq (rG f 18) (.cond (.tmp 98) (.seq (rG f 19) (.seq (rG f 20) (.seq (rG f 21) (.seq (rG f 22) (.seq (rG f 23) (.seq (rG f 24) (.seq (rG f 25) .ret))))))) (.seq (rG f 26) (.cond (.tmp 138) (.seq (rG f 27) (.seq (rG f 28) .ret)) .skip))))))
def Ss(f:Func):Code:=(.seq (rG f 0) (.seq (.seq (rG f 1) (.block 0 (.seq (rG f 2) (.cond (.tmp 17) (.seq (rG f 3) .ret) (.seq (rG f 4) (.cond (.tmp 23) (.seq (rD f 5) (.seq (rD f 6) (.seq (rG f 7) .ret))) (.seq (rG f 8) (.cond (.tmp 46) (.seq (rD f 9) (.seq (rD f 10) (.seq (rG f 11) .ret))) (.seq (rG f 12) (.cond (.tmp 69) (.seq (rG f 13) (rG f 14)) (Sr f))))))))))) (.seq (rG f 29) .ret)))
theorem Ay:f25.body=some (Ss f25):=by kernel_rfl
theorem rP{k A B:Int}{p0:Value}(J:aB [(0,p0),(1,.agg (yx k A B D lp ln lq))] 155 [] a)(hk:k≠1/\k≠2/\k≠3/\k≠4)
 (next:∀a w1,Bw w w1->aB [(0,p0),(16,.int .i64 k)] 155 [] a->Rn kX Goal ((base 25).atR a [.code (Sr f25),.inBlock 0,.code (.seq (rG f25 29) .ret)]) cs w1):
 Rn kX Goal ((base 25).atR a [.code (Ss f25)]) cs w:=by
 refine dw J λw1 a b1 c1 z1 J=>?_;refine aF J λa J=>?_;refine ai J (λo ho=>Bh ho (J.Q 3)) λa J=>?_;refine ai J (λo ho=>(av aC ho (J.Q 15) ((ar c1 0).trans rfl)).1) λa J=>?_;refine ai J (λo ho=>dU (m:=k) (n:=1) ho (J.Q 16) rfl) λa J=>?_;rw[show(k==1)=false from by rw[beq_eq_false_iff_ne];omega]at J;refine aF J λa J=>?_;refine a9 rfl (ak _ (J.Q 17) ?_);refine ai J (λo ho=>dU (m:=k) (n:=2) ho (J.Q 16) rfl) λa J=>?_;rw[show(k==2)=false from by rw[beq_eq_false_iff_ne];omega]at J;refine aF J λa J=>?_;refine a9 rfl (ak _ (J.Q 23) ?_);refine ai J (λo ho=>dU (m:=k) (n:=3) ho (J.Q 16) rfl) λa J=>?_;rw[show(k==3)=false from by rw[beq_eq_false_iff_ne];omega]at J;refine aF J λa J=>?_;refine a9 rfl (ak _ (J.Q 46) ?_);refine ai J (λo ho=>dU (m:=k) (n:=4) ho (J.Q 16) rfl) λa J=>?_;rw[show(k==4)=false from by rw[beq_eq_false_iff_ne];omega]at J;refine aF J λa J=>?_;refine a9 rfl (ak _ (J.Q 69) ?_);exact next _ _ b1 (J.only ⟨rfl,rfl,trivial⟩)
section
variable{rb fr hb:Nat}{V K:List Int}{on:Bool}{up:Bool}{mv:Value}
theorem Lm{A B:Int}(h:fY w pb lb cb fb fq rb fr Tp wb qw kb qk hb hq tb tq KS V K L on sl up rs lv mv ls ms):Cl kX 25 #[.pk pb 0,.agg (yx 5 A B D lp ln lq)] w λe w'=>e=.returned (.bool true)/\Bw w w':=by
 refine jz (t:=4) func25 rfl λcs=>?_;rw[gC (N:=155) [.pk pb 0,.agg (yx 5 A B D lp ln lq)] func25 Ay rfl];refine rP (dF [.pk pb 0,.agg (yx 5 A B D lp ln lq)] 155 s_) d_ λa w1 b1 J=>?_;have h1:=h.below b1;have YL:=h1.pr;have hrf:=h1.ref;refine ai J (λo ho=>dU (m:=5) (n:=5) ho (J.Q 16) rfl) λa J=>?_;refine aF J λa J=>?_;refine a9 rfl (ak _ (J.Q 81) ?_)
 iterate 4 refine aF J λa J=>?_
 refine bz J func59 (JZ h1.lin h1.ch h1.fls) λw2 hw a J=>?_;subst hw
 iterate 9 refine aF J λa J=>?_
 obtain⟨_,f,c,cells,frz,e,h62,XY,_,TN⟩:=h1.rfs;cases e;rw[show Value.sk fr L.size Tp=.sk fr L.data.toList.length Tp from by rw[ax1];rfl]at J;refine ai J (λo ho=>rI ho (J.Q 95) λj hj=>?_) λa J=>?_
 .rw[show w2.cell? ⟨fr,j,none⟩=cells[j]? from by simp[ay_,XY]];exact TN j hj
 refine aF J λa J=>?_;rw[beq_self_eq_true]at J;refine aF J λa J=>?_;exact aH J ⟨rfl,b1⟩
theorem Lj{A B:Int}(h:fY w pb lb cb fb fq rb fr Tp wb qw kb qk hb hq tb tq KS V K L on sl up rs lv mv ls ms):Cl kX 25 #[.pk pb 0,.agg (yx 7 A B D lp ln lq)] w λe w'=>e=.returned (.bool true)/\Bw w w':=by
 refine jz (t:=4) func25 rfl λcs=>?_;rw[gC (N:=155) [.pk pb 0,.agg (yx 7 A B D lp ln lq)] func25 Ay rfl];refine rP (dF [.pk pb 0,.agg (yx 7 A B D lp ln lq)] 155 s_) d_ λa w1 b1 J=>?_;have h1:=h.below b1;have YL:=h1.pr;have hrf:=h1.ref;refine ai J (λo ho=>dU (m:=7) (n:=5) ho (J.Q 16) rfl) λa J=>?_;refine aF J λa J=>?_;refine a9 rfl (ak _ (J.Q 81) ?_);refine ai J (λo ho=>dU (m:=7) (n:=6) ho (J.Q 16) rfl) λa J=>?_;refine aF J λa J=>?_;refine a9 rfl (ak _ (J.Q 98) ?_);refine ai J (λo ho=>dU (m:=7) (n:=7) ho (J.Q 16) rfl) λa J=>?_;refine aF J λa J=>?_;refine a9 rfl (ak _ (J.Q 138) ?_)
 iterate 4 refine aF J λa J=>?_
 refine bz J func63 (Nh h1.lin h1.ch) λw2 hw a J=>?_;subst hw
 iterate 9 refine aF J λa J=>?_
 have hk:=h1.kpt;have hl:(K.map λx=>aE1 x.toNat).length=16:=by simpa using hk.1.1
 rw[show Value.sk kb 16 qk=.sk kb (K.map λx=>aE1 x.toNat).length qk from by rw[hl]]at J;refine ai J (λo ho=>rI ho (J.Q 152) λj hj=>?_) λa J=>?_
 .have Ux:j<K.length:=by simpa using hj
  rw[C0 hk Ux,aM6];have:=hk.1.2 j Ux
  congr 2
  rw[aO_];omega
 refine aF J λa J=>?_;rw[show((LY K).data.toList==(ByteArray.mk (K.map λx=>aE1 x.toNat).toArray).data.toList)=true from by rw[beq_iff_eq];rfl]at J;refine aF J λa J=>?_;exact aH J ⟨rfl,b1⟩
end

section
variable{rb fr hb:Nat}{V K:List Int}{on:Bool}{up:Bool}{mv:Value}
def Xl(pb:Nat)(lv mv:Value)(b:Nat):Prop:=b=pb\/lv.ownBlock=some b\/mv.ownBlock=some b
theorem PF{c:Nat}{x y:Array Value}{t u:TypeId}{fx fy:Nat×Nat}(hb:w.heap[b]?=some (.cells x t fx))(hc:w.heap[c]?=some (.cells y u fy))(h:t≠u):b≠c:=λe=>by
 rw[e,hc]at hb;injection hb with hb;injection hb with _ hb;exact h hb.symm
theorem fY.off(h:fY w pb lb cb fb fq rb fr Tp wb qw kb qk hb hq tb tq KS V K L on sl up rs lv mv ls ms):¬Xl pb lv mv lb/\¬Xl pb lv mv cb/\¬Xl pb lv mv fb/\¬Xl pb lv mv rb/\¬Xl pb lv mv fr/\¬Xl pb lv mv wb/\¬Xl pb lv mv kb/\¬Xl pb lv mv hb/\¬Xl pb lv mv tb:=by
 have gen:∀{b:Nat} {x:Array Value} {t:TypeId} {f:Nat×Nat},w.heap[b]?=some (.cells x t f)->t≠60->t≠24->(t≠3\/∃c,Zs wb hb tb b/\c=b)->¬Xl pb lv mv b:=λ{b x t f} hb h1 h2 h3=>by
  rintro(rfl|e|e)
  .exact PF hb h.pr h1 rfl
  .exact fo h.lst.ol hb h2 e.symm
  .rcases h3 with h3|⟨_,h3,_⟩
   .exact fo h.lst.om hb h3 e.symm
   .exact h.lst.mw b e h3
 obtain⟨_,f1,c1,x1,z1,e1,_,hf,_⟩:=h.fls;cases e1;obtain⟨_,f2,c2,x2,z2,e2,_,hr,_⟩:=h.rfs;cases e2;obtain⟨_,_,x3,z3,hk,_⟩:=h.kpt;obtain⟨x4,hw,_⟩:=h.wds;obtain⟨x5,hh,_⟩:=h.hsh;obtain⟨x6,ht,_⟩:=h.tab;exact⟨gen h.lin d_ d_ (.inl d_),gen h.ch.2.2 d_ d_ (.inl d_),gen hf d_ d_ (.inl d_),gen h.ref d_ d_ (.inl d_),gen hr d_ d_ (.inl d_),gen hw d_ d_ (.inr ⟨_,.inl rfl,rfl⟩),gen hk d_ d_ (.inl d_),gen hh d_ d_ (.inr ⟨_,.inr (.inl rfl),rfl⟩),gen ht d_ d_ (.inr ⟨_,.inr (.inr rfl),rfl⟩)⟩
theorem fY.blocks(h:fY w pb lb cb fb fq rb fr Tp wb qw kb qk hb hq tb tq KS V K L on sl up rs lv mv ls ms):lb<w.heap.size/\cb<w.heap.size/\fb<w.heap.size/\rb<w.heap.size/\fr<w.heap.size/\wb<w.heap.size/\kb<w.heap.size/\hb<w.heap.size/\tb<w.heap.size:=by
 obtain⟨_,f1,c1,x1,z1,e1,_,hf,_⟩:=h.fls;cases e1;obtain⟨_,f2,c2,x2,z2,e2,_,hr,_⟩:=h.rfs;cases e2;obtain⟨_,_,x3,z3,hk,_⟩:=h.kpt;exact⟨aA h.lin,h.ch.lt,aA hf,aA h.ref,aA hr,h.wds.lt,aA hk,h.hsh.lt,h.tab.lt⟩
def P9(w0:World)(pb lb cb fb fq rb fr Tp wb qw kb qk hb hq tb tq:Nat)(KS V K:List Int)(L:ByteArray)(on:Bool)(sl:Int)(up:Bool)(rs:Int)(lv mv:Value)(ls:List Value)(n:Nat)(w:World):Prop:=∃VI VH W3 W9,fY w pb lb cb fb fq rb fr Tp wb qw kb qk hb hq tb tq KS V K L on sl up rs VI VH W3 W9/\W9.length=n/\(∀b,VI.ownBlock=some b->lv.ownBlock=some b\/w0.heap.size<=b)/\(∀b,VH.ownBlock=some b->mv.ownBlock=some b\/w0.heap.size<=b)/\(∀v b,v∈W3->v.ownBlock=some b->v∈ls\/w0.heap.size<=b)/\Ex (Xl pb lv mv) w0 w
theorem La{cap:Nat}{W:List Int}(h:fY w pb lb cb fb fq rb fr Tp wb qw kb qk hb hq tb tq KS V K L on sl up rs lv mv ls ms)(Xc:ms.length<=1000000000)(ho:w.ownsRow 0 3 1 (.sk g 85 cap) 85 (aO W))(hgm:mv.ownBlock≠some g)(hgw:¬Zs wb hb tb g)(Zc:∀v,v∈ls->v.ownBlock≠some g)(hg0:w0.heap.size<=g)(hlo:lb<w0.heap.size/\cb<w0.heap.size/\fb<w0.heap.size/\rb<w0.heap.size/\fr<w0.heap.size/\wb<w0.heap.size/\kb<w0.heap.size/\hb<w0.heap.size/\tb<w0.heap.size):
 Cl kX 62 #[.pk pb 0,.sk g 85 cap] w λe w'=>e=.returned (.tuple #[])/\∃VI VH W3 W9,fY w' pb lb cb fb fq rb fr Tp wb qw kb qk hb hq tb tq KS V K L on sl up rs VI VH W3 W9/\W9.length=ms.length+4/\(∀b,VI.ownBlock=some b->lv.ownBlock=some b\/w.heap.size<=b)/\(∀b,VH.ownBlock=some b->mv.ownBlock=some b\/w.heap.size<=b)/\(∀v b,v∈W3->v.ownBlock=some b->v∈ls\/b=g\/w.heap.size<=b)/\Ex (λb=>Xl pb lv mv b\/b=g) w w':=
 (Ez h.pr h.lst Xc ho hgm (λb hz=>by
   obtain⟨_,_,_,_,_,b6,_,b8,b9⟩:=h.blocks;rcases hz with rfl|rfl|rfl<;>assumption) hgw Zc).mono λe w' ⟨e1,VI,VH,W3,W9,hp,hl,hn,k1,k2,k3,hx⟩=>by
   have TH:Ex (λb=>Xl pb lv mv b\/b=g) w w':=Ex.wide hx λb _ e=>by
    rcases e with e|e|e|e
    .exact .inl (.inl e)
    .exact .inr e
    .exact .inl (.inr (.inl e))
    .exact .inl (.inr (.inr e))
   obtain⟨o1,o2,o3,o4,o5,o6,o7,o8,o9⟩:=h.off;obtain⟨l1,l2,l3,l4,l5,l6,l7,l8,l9⟩:=hlo;have nn:∀{b:Nat},b<w0.heap.size->¬Xl pb lv mv b->¬(Xl pb lv mv b\/b=g):=λh1 h2 e=>e.elim h2 λe=>by omega
   exact⟨e1,VI,VH,W3,W9,h.ex TH ⟨nn l1 o1,nn l2 o2,nn l3 o3,nn l4 o4,nn l5 o5,nn l6 o6,nn l7 o7,nn l8 o8,nn l9 o9⟩ hp hl,hn,k1,k2,k3,TH⟩
theorem Ll{A B:Int}(hV:V.length=85)(h:fY w pb lb cb fb fq rb fr Tp wb qw kb qk hb hq tb tq KS V K L on sl up rs lv mv ls ms)(Xc:ms.length<=100000000):Cl kX 25 #[.pk pb 0,.agg (yx 6 A B D lp ln lq)] w λe w'=>e=.returned (.bool true)/\P9 w pb lb cb fb fq rb fr Tp wb qw kb qk hb hq tb tq KS V K L on sl up rs lv mv ls (ms.length+8) w':=by
 refine jz (t:=4) func25 rfl λcs=>?_;rw[gC (N:=155) [.pk pb 0,.agg (yx 6 A B D lp ln lq)] func25 Ay rfl];refine rP (dF [.pk pb 0,.agg (yx 6 A B D lp ln lq)] 155 s_) d_ λa w1 b1 J=>?_;have h1:=h.below b1;have YL:=h1.pr;refine ai J (λo ho=>dU (m:=6) (n:=5) ho (J.Q 16) rfl) λa J=>?_;refine aF J λa J=>?_;refine a9 rfl (ak _ (J.Q 81) ?_);refine ai J (λo ho=>dU (m:=6) (n:=6) ho (J.Q 16) rfl) λa J=>?_;refine aF J λa J=>?_;refine a9 rfl (ak _ (J.Q 98) ?_)
 iterate 4 refine aF J λa J=>?_
 refine bp J func60 (AV h1.lin h1.ch) λv2 w2 ⟨o2,b2⟩ a J=>?_;have h2:=h1.below b2;have hpr2:=h2.pr
 iterate 5 refine aF J λa J=>?_
 refine bp J func60 (AV h2.lin h2.ch) λv3 w3 ⟨o3,b3⟩ a J=>?_;have h3:=h2.below b3;have YK:=h3.pr;have YI:=h3.ref;have o2':=cG o2 b3
 iterate 9 refine aF J λa J=>?_
 refine bz J func61 (nm (W:=V) o_ (oP o2') (hV▸h3.wds.is qw)) λw4 b4 a J=>?_;have h4:=h3.below b4;have hpr4:=h4.pr;have hrf4:=h4.ref;have o2'':=cG o2' b4;have o3':=cG o3 b4
 iterate 9 refine aF J λa J=>?_
 refine bz J func61 (nm (W:=V) o_ (oP o3') (hV▸h4.wds.is qw)) λw5 b5 a J=>?_;have h5:=h4.below b5;have p2:=cG o2'' b5;have p3:=cG o3' b5;obtain⟨g2,q2,rfl,n2⟩:∃g q,v2=.sk g 85 q/\w1.heap.size<=g:=by
  rcases p2.2 with⟨_,e⟩|⟨g,cap,cur,e,hb,_⟩
  .cases e
  .exact⟨g,cap,e,hb⟩
 obtain⟨g3,q3,rfl,n3⟩:∃g q,v3=.sk g 85 q/\w2.heap.size<=g:=by
  rcases p3.2 with⟨_,e⟩|⟨g,cap,cur,e,hb,_⟩
  .cases e
  .exact⟨g,cap,e,hb⟩
 have l2:g2<w2.heap.size:=mG o2 rfl;have l3:g3<w3.heap.size:=mG o3 rfl;have z1:=b1.size;have z2:=b2.size;have z3:=b3.size;have z4:=b4.size;have z5:=b5.size;have mlt:∀b,mv.ownBlock=some b->b<w.heap.size:=λb hb=>mG h.lst.om hb;have llt:∀b,lv.ownBlock=some b->b<w.heap.size:=λb hb=>mG h.lst.ol hb;have lsl:∀v b,v∈ls->v.ownBlock=some b->b<w.heap.size:=λv b h1 h2=>(h.lst.apart v b h1 h2).2.2;have blk:=h.blocks;have zl:∀b,Zs wb hb tb b->b<w.heap.size:=λb hz=>by
  obtain⟨_,_,_,_,_,b6,_,b8,b9⟩:=blk;rcases hz with rfl|rfl|rfl<;>assumption
 iterate 3 refine aF J λa J=>?_
 refine bp J func62 ((La (w0:=w) h5 o_ (nM p2 (ay7 _)) (λe=>by have:=mlt _ e;omega) (λe=>by have:=zl _ e;omega) (λv hv e=>by have:=lsl v _ hv e;omega) o_ blk).mono λe w' ⟨e1,e2⟩=>(⟨.tuple #[],e1,rfl,e2⟩:∃v,e=.returned v/\(v=.tuple #[]/\_))) λv6 w6 hv a J=>?_;obtain⟨rfl,lv6,mv6,ls6,ms6,h6,n6,kl6,km6,ks6,x6⟩:=hv;have z6:=x6.size;have m6:∀b,mv6.ownBlock=some b->b<w.heap.size\/w5.heap.size<=b:=λb hb=>(km6 b hb).imp (mlt b) id;have p6:w6.ownsRow 0 3 1 (.sk g3 85 q3) 85 (aO V):=eH (nM p3 (ay7 _)) λc ob hc ho=>by
  have hc:some g3=some c:=hc;cases hc;refine x6.at ?_ ho;rintro((e|e|e)|e)
  .have:=aA h.pr;omega
  .have:=llt _ e;omega
  .have:=mlt _ e;omega
  .omega
 iterate 2 refine aF J λa J=>?_
 refine bp J func62 ((La (w0:=w) h6 o_ p6 (λe=>by have:=m6 _ e;omega) (λe=>by have:=zl _ e;omega) (λv hv e=>by
  rcases ks6 v _ hv e with h|h|h
  .have:=lsl v _ h e;omega
  .omega
  .omega) o_ blk).mono λe w' ⟨e1,e2⟩=>(⟨.tuple #[],e1,rfl,e2⟩:∃v,e=.returned v/\(v=.tuple #[]/\_))) λv7 w7 hv a J=>?_
 obtain⟨rfl,lv7,mv7,ls7,ms7,h7,n7,kl7,km7,ks7,x7⟩:=hv
 iterate 5 refine aF J λa J=>?_
 refine aH J ⟨rfl,lv7,mv7,ls7,ms7,h7,by omega,λb hb=>?_,λb hb=>?_,λv b hv hb=>?_,?_⟩
 .rcases kl7 b hb with h|h
  .exact(kl6 b h).imp id λh=>by omega
  .exact .inr o_
 .rcases km7 b hb with h|h
  .exact(km6 b h).imp id λh=>by omega
  .exact .inr o_
 .rcases ks7 v b hv hb with h|h|h
  .rcases ks6 v b h hb with h|h|h
   .exact .inl h
   .exact .inr o_
   .exact .inr o_
  .exact .inr o_
  .exact .inr o_
 .refine((an (X:=Xl pb lv mv) (ae (ae (ae (ae b1 b1.size b2) o_ b3) o_ b4) o_ b5)).trans x6 λb hb e=>?_).trans x7 λb hb e=>?_
  .exact e.elim id λe=>by omega
  .rcases e with(e|e|e)|e
   .exact .inl e
   .exact(kl6 b e).elim (λh=>.inr (.inl h)) λh=>by omega
   .exact(km6 b e).elim (λh=>.inr (.inr h)) λh=>by omega
   .omega
theorem KF:f22.body=some (.seq (rG f22 0) (.seq (rG f22 1) (.seq (rG f22 2) (.seq (rG f22 3) (.seq (rG f22 4) (.seq (rG f22 5) .ret)))))):=by kernel_rfl
theorem zL(hV:V.length=85)(h:fY w pb lb cb fb fq rb fr Tp wb qw kb qk hb hq tb tq KS V K L on sl up rs lv mv ls ms)(Xc:ms.length<=100000000):Cl kX 22 #[.pk pb 0] w λe w'=>e=.returned (.bool true)/\P9 w pb lb cb fb fq rb fr Tp wb qw kb qk hb hq tb tq KS V K L on sl up rs lv mv ls (ms.length+8) w':=by
 refine az (N:=28) func22 KF λcs a J=>?_
 iterate 2 refine aF J λa J=>?_
 refine ai J (λo ho=>yX (k:=5) ho rfl) λa J=>?_;refine bz J func25 (Lm h) λw1 b1 a J=>?_;have h1:=h.below b1
 iterate 2 refine aF J λa J=>?_
 refine ai J (λo ho=>yX (k:=6) ho rfl) λa J=>?_;refine bz J func25 (Ll hV h1 Xc) λw2 ⟨lv2,mv2,ls2,ms2,h2,n2,kl,km,ks,x2⟩ a J=>?_
 iterate 2 refine aF J λa J=>?_
 refine ai J (λo ho=>yX (k:=7) ho rfl) λa J=>?_;refine bz J func25 (Lj h2) λw3 b3 a J=>?_;have h3:=h2.below b3
 iterate 2 refine aF J λa J=>?_
 refine bz J func26 (ub h3.pr h3.lst o_) λw4 b4 a J=>?_
 iterate 12 refine aF J λa J=>?_
 have z1:=b1.size;have z2:=x2.size;have z3:=b3.size;have z4:=b4.size;refine aH J ⟨rfl,lv2,mv2,ls2,ms2,h3.below b4,by omega,λb hb=>(kl b hb).imp id λh=>by omega,λb hb=>(km b hb).imp id λh=>by omega,λv b hv hb=>(ks v b hv hb).imp id λh=>by omega,?_⟩;exact(((an (X:=Xl pb lv mv) b1).trans x2 λ_ _ e=>e).trans (an (X:=λ_=>False) b3) λ_ _ e=>e.elim).trans (an (X:=λ_=>False) b4) λ_ _ e=>e.elim
end

theorem BL(x:Int)(w:World):Cl kX 104 #[.int .i64 x] w λe w'=>e=.returned (.bool (decide (0<=x/\x<65536)))/\w'=w:=by
 refine az (N:=9) func104 GV λcs a J=>?_
 iterate 4 refine ao J λa J=>?_
 by_cases hx:0<=x
 .rw[show decide (x≥0)=true from decide_eq_true hx]at J
  iterate 2 refine ao J λa J=>?_
  refine ai J (λo ho=>fN ho (J.Q 5) (J.Q 7)) λa J=>?_;rw[show decide (x<=65535)=decide (0<=x/\x<65536)from decide_eq_decide.2 o_]at J;refine ao J λa J=>?_;exact aH J ⟨rfl,rfl⟩
 .rw[show decide (x≥0)=false from decide_eq_false hx]at J
  iterate 2 refine bY J λa J=>?_
  refine ai (v:=.bool false) J (λo ho=>gk ho (J.Q 5) rfl) λa J=>?_;rw[show false=decide (0<=x/\x<65536)from(decide_eq_false o_).symm]at J;refine ao J λa J=>?_;exact aH J ⟨rfl,rfl⟩
section
variable{W:List Int}{off cap:Nat}
theorem E1(hl:W.length=85)(hr:w.rangeAt g off (W.map (Value.int .i64)))(nt:∀a b k,(b=true↔dL W)->aB [(2,.bool b)] 18 [] a->Rn kX Goal ((base 98).atR a (.code .ret::k)) cs w):
 ∀(m i:Nat) (a:Act),85- i=m->i<=85->(∀j,j<i->0<=W.getD j 0/\W.getD j 0<65536)->aB [(8,.slice (some ⟨g,off,none⟩) 85 cap),(9,.int .i64 85),(10,.int .i64 i)] 18 [] a->Rn kX Goal ((base 98).atR a [.code (Qh f98),.inLoop (Qh f98),.inBlock 0,.code (G8 f98)]) cs w:=by
 intro m;induction m with
 |zero=>
  intro i a hm hi hp J;refine ao J λa J=>?_;refine a9 rfl (a9 rfl (ak _ (J.Q 11) ?_));rw[decide_eq_false o_];refine ao J λa J=>?_;exact a9 rfl (nt _ true _ ⟨λ_=>⟨hl,λj hj=>hp j o_⟩,λ_=>rfl⟩ (J.only ⟨rfl,trivial⟩))
 |succ m ih=>
  intro i a hm hi hp J;refine ao J λa J=>?_;refine a9 rfl (a9 rfl (ak _ (J.Q 11) ?_));rw[decide_eq_true o_];refine ai J (λo ho=>b_ i k_ ho (J.Q 8) (J.Q 10) o_) λa J=>?_;refine ai J (λo ho=>oM i hr o_ ho (J.Q 12)) λa J=>?_
  iterate 2 refine ao J λa J=>?_
  refine bz J func104 (BL _ w) λw' hw a J=>?_;rw[hw];by_cases hx:0<=W.getD i 0/\W.getD i 0<65536
  .rw[decide_eq_true hx]at J;refine ao J λa J=>?_;refine a9 rfl (ak _ (J.Q 16) ?_);refine ai J (λo ho=>aN (n:=1) ho (J.Q 10) rfl o_) λa J=>?_;refine ao J λa J=>?_;exact a9 rfl (a9 rfl (ih (i+1) _ o_ o_ (λj hj=>by
    by_cases e:j=i
    .rw[e];exact hx
    .exact hp j o_) (J.only ⟨rfl,rfl,rfl,trivial⟩)))
  .rw[decide_eq_false hx]at J;refine ao J λa J=>?_;refine a9 rfl (ak _ (J.Q 16) ?_);refine ao J λa J=>?_;exact a9 rfl (nt _ false _ ⟨λe=>(by cases e),λh=>absurd (h.2 i o_) hx⟩ (J.only ⟨rfl,trivial⟩))
theorem Ha(hr:w.rangeAt g off (W.map (Value.int .i64))):Cl kX 98 #[.slice (some ⟨g,off,none⟩) W.length cap] w λe w'=>∃v,e=.returned v/\(∃b,v=.bool b/\(b=true↔dL W))/\w'=w:=by
 refine az (N:=18) func98 GX λcs a J=>?_
 iterate 2 refine ao J λa J=>?_
 refine ai J (λo ho=>ix ho (J.Q 5)) λa J=>?_;refine ao J λa J=>?_;by_cases hl:W.length=85
 .rw[hl]at J;refine a9 rfl (ak _ (J.Q 7) ?_);refine ao J λa J=>?_;refine ai J (λo ho=>ix ho (J.Q 8)) λa J=>?_;refine ao J λa J=>?_;refine a9 rfl (a9 rfl (a9 rfl (E1 hl hr (λa b k hb J=>aH J ⟨_,rfl,⟨b,rfl,hb⟩,rfl⟩) 85 0 _ rfl o_ (λj hj=>by omega) (J.only ⟨rfl,rfl,rfl,trivial⟩))))
 .rw[show(((W.length:Nat):Int) !=85)=true from bne_iff_ne.2 o_]at J;refine a9 rfl (ak _ (J.Q 7) ?_);refine ao J λa J=>?_;exact aH J ⟨_,rfl,⟨false,rfl,λe=>(by cases e),λh=>absurd h.1 hl⟩,rfl⟩
def Dj(kp:ByteArray):List Int:=kp.data.toList.map λb=>(b.toNat:Int)
theorem Lr(h:kp.size=16):Q_ (Dj kp):=by
 have ZS:kp.data.toList.length=16:=by rw[ax1];exact h
 refine⟨by simpa[Dj]using ZS,λi hi=>?_⟩;simp only[Dj,aM6];have:=(kp.data.toList[i]'(by simpa[Dj]using hi)).toNat_lt;omega
def SP(w:World)(L:ByteArray)(v:Value)(w1:World):Prop:=∃fc,v=.sk w.heap.size L.size fc/\Bw w w1/\w1.heap.size=w.heap.size+1/\j7 w1 (.sk w.heap.size L.size fc) L
theorem uI(hL:L.size<4611686018427387904)(SS:o.op=.convert 9 83 x)(hx:ev x=.string L)(e':Nat):∃v w1,(execOp ev o).run prog {w with drawn:=e'}= .ok (.value v) w1/\SP w L v w1:=by
 have h:=Fb (w:={w with drawn:=e'}) SS hx;have TX:L.size<=grownCap {w with drawn:=e'} L.size 0 5:=grownCap_ge _ L.size 0 5;revert h TX;generalize grownCap {w with drawn:=e'} L.size 0 5=fc;intro h TX;refine⟨_,_,h,fc,rfl,p_ (d:=e'+1) (aJ {w with drawn:=e'+1} _),ay {w with drawn:=e'+1} _,hL,w.heap.size,fc,_,_,rfl,TX,aR {w with drawn:=e'+1} _,by simp[bytesRow],λj hj=>?_⟩;have Ux:j<L.data.size:=by rw[ax1]at hj;exact hj
 rw[bytesRow_at L fc j Ux,Array.getElem_toList]
def Sg(L kp:ByteArray)(W:List Int)(w:World)(v:Value)(w':World):Prop:=((¬(dL W/\kp.size=16)/\v=.tuple #[.pointer none,.int .i64 11])\/((dL W/\kp.size=16)/\∃cb fb fq,v=.tuple #[.pk cb 0,.int .i64 0]/\i8 w' cb (.sk fb L.size fq) W (Dj kp) false 0/\j7 w' (.sk fb L.size fq) L/\w.heap.size<=fb/\fb<cb))/\Bw w w'
theorem MS(hL:L.size<4611686018427387904)(hr:w.rangeAt g off (W.map (Value.int .i64))):Cl kX 74 #[.string L,.slice (some ⟨g,off,none⟩) W.length cap,.string kp] w λe w'=>∃v,e=.returned v/\Sg L kp W w v w':=by
 refine cU (t:=6) (u:=7) func74 rfl λcs=>?_;refine bv (N:=34) func74 O7 λa J=>?_
 iterate 3 refine ao J λa J=>?_
 refine bp J func98 (Ha hr) λv w' hw a J=>?_;obtain⟨⟨b,rfl,hb⟩,rfl⟩:=hw;cases b with
 |false=>
  iterate 2 refine ao J λa J=>?_
  iterate 3 refine bY J λa J=>?_
  refine ai (v:=.bool true) J (λo ho=>fN ho (J.Q 12) rfl) λa J=>?_;refine a9 rfl (ak _ (J.Q 16) ?_)
  iterate 2 refine ao J λa J=>?_
  exact eN J ⟨_,rfl,.inl ⟨λh=>(by have:=hb.2 h.1;cases this),rfl⟩,aw8 _ _⟩
 |true=>
  iterate 5 refine ao J λa J=>?_
  refine ai J (λo ho=>gk ho (J.Q 12) (J.Q 15)) λa J=>?_;by_cases Uw:kp.size=16
  .have hW:=hb.1 rfl;rw[show(((kp.size:Nat):Int) !=16)=false from by simp[Uw]]at J;refine a9 rfl (ak _ (J.Q 16) ?_);refine ao J λa J=>?_;refine dX J (λo ho e=>uI hL ho (J.Q 17) e) λv w1 ⟨fc,ev,b1,z1,f1⟩ a J=>?_;subst ev;refine ai J (λo ho=>Jd ho (J.Q 18)) λa J=>?_;refine dw J λw2 a b2 c2 z2 J=>?_;have f2:=f1.keep (an (X:=λ_=>False) b2) (λ_ _ _ _ e=>e);have r2:=(λj v hv=>aU (ae b1 b1.size b2) (hr j v hv):w2.rangeAt g off (W.map (Value.int .i64)))
   iterate 4 refine ao J λa J=>?_
   refine ai J (λo ho=>uV ho (J.Q 23)) λa J=>?_;refine ao J λa J=>?_;rw[hW.1]at J;refine ai J (λo ho=>GL (by simp[HI]) hW.1 c2 r2 ho (J.Q 24) (J.Q 25)) λa J=>?_;have c3:=aZ (cs:=jm (.sk w'.heap.size L.size fc) W (HI 16) false 0) (t:=149) c2;have x3:=bC (w:=w2) w1.heap.size (jm (.sk w'.heap.size L.size fc) W (HI 16) false 0) 149;have f3:=f2.keep x3 λb cs fr hb=>gF c2 d_ b cs fr hb
   iterate 3 refine ao J λa J=>?_
   refine ai J (λo ho=>Bl ho (J.Q 29)) λa J=>?_;refine ao J λa J=>?_;refine ai J (λo ho=>Kr hW.1 (by simp[HI]) Uw c3 ho (J.Q 30) (J.Q 31)) λa J=>?_;have x4:=bC (w:=put w2 w1.heap.size (jm (.sk w'.heap.size L.size fc) W (HI 16) false 0) 149) w1.heap.size (jm (.sk w'.heap.size L.size fc) W (Dj kp) false 0) 149;have f4:=f3.keep x4 λb cs fr hb=>gF c3 d_ b cs fr hb
   iterate 3 refine ao J λa J=>?_
   have X4:Ex (λ_=>False) w' (put (put w2 w1.heap.size (jm (.sk w'.heap.size L.size fc) W (HI 16) false 0) 149) w1.heap.size (jm (.sk w'.heap.size L.size fc) W (Dj kp) false 0) 149):=((an (ae b1 b1.size b2)).trans x3 λb hb e=>by omega).trans x4 λb hb e=>by omega
   exact eN J ⟨_,rfl,.inr ⟨⟨hW,Uw⟩,w1.heap.size,w'.heap.size,fc,rfl,⟨hW.1,Lr Uw,aZ c3⟩,f4,aw0 _,by omega⟩,⟨X4.os,X4.tape,X4.output,X4.size,λb hb=>X4.block b hb λe=>e⟩⟩
  .rw[show(((kp.size:Nat):Int) !=16)=true from bne_iff_ne.2 o_]at J;refine a9 rfl (ak _ (J.Q 16) ?_)
   iterate 2 refine ao J λa J=>?_
   exact eN J ⟨_,rfl,.inl ⟨λh=>Uw h.2,rfl⟩,aw8 _ _⟩
end

theorem Dv{a b d:Int}{ts:Array TypeId}(SS:o.op=.call {callee:=.builtin .max,args:=#[x,y],argTypes:=ts})(hx:ev x=.int .i64 a)(hy:ev y=.int .i64 b)(hd:max a b=d):(execOp ev o).run P w=.ok (.value (.int .i64 d)) w/\aM P (execOp ev o):=by
 have e:∀ts ty,b08 ts ty #[.int .i64 a,.int .i64 b]=pure (.int .i64 d):=λ_ _=>by
  simp only[b08,Builtin.max2,List.foldlM];show(pure (Value.int .i64 (if b>a then b else a)):Sem Value)=_
  congr 2
  split<;>omega
 have h:∀w es,(execOp ev o).runT P w es=(.ok (.value (.int .i64 d)) w,es):=λw es=>by
  simp[-az7,execOp,SS,resolve,hx,hy,invoke,builtin,e,bind,Sem.bind,Sem.runT,pure]
 refine⟨?_,.eqv (s':=.pure _) h (.pure _)⟩;have:=congrArg Prod.fst (h w #[]);rwa [Sem.runT_fst]at this
structure Sx (w0:World) (cb rb ob zb bu bh:Nat) (fl:Value) (W K:List Int) (L:ByteArray) (st le:Int) (us:List Bool) (hs:List ByteArray) (KS:List Int) (room:Int) (w:World):Prop where
 ch:i8 w cb fl W K false 0
 run:w.heap[rb]?=some (.cells (kz cb room false) 151)
 fls:j7 w fl L
 out:w.heap[ob]?=some (.cells (bo 0 false 0 0 0) 100)
 fus:w.heap[zb]?=some (.cells (eT st le (.sk bu 4 4) (.sk bh 4 4)) 45)
 us:w.heap[bu]?=some (.cells (us.map Value.bool).toArray 4)
 hs:w.heap[bh]?=some (.cells (hs.map Value.string).toArray 9)
 tab:w.rangeAt 0 0 (aI KS)
 ex:Ex (XR cb rb) w0 w
section
variable{rb ob:Nat}{fl:Value}{W K K':List Int}{st le:Int}{us:List Bool}{hs:List ByteArray}{room U0:Int}
theorem Sx.pos(h:Sx w0 cb rb ob zb bu bh fl W K L st le us hs KS room w):0<w.heap.size:=Nat.lt_of_le_of_lt (ay7 _) h.ch.lt
theorem Sx.ex'(h:Sx w0 cb rb ob zb bu bh fl W K L st le us hs KS room w)(h0:¬XR cb rb 0)(hx:Ex (XR cb rb) w w')(hc:i8 w' cb fl W K' false 0)(hr:w'.heap[rb]?=some (.cells (kz cb U0 false) 151)):Sx w0 cb rb ob zb bu bh fl W K' L st le us hs KS U0 w':=
 ⟨hc,hr,h.fls.keep hx (mH h.ch.to h.run),hx.at (kC h.ch.to h.run h.out d_ d_) h.out,hx.at (kC h.ch.to h.run h.fus d_ d_) h.fus,hx.at (kC h.ch.to h.run h.us d_ d_) h.us,hx.at (kC h.ch.to h.run h.hs d_ d_) h.hs,cW hx h0 h.pos h.tab,h.ex.trans hx λ_ _ e=>e⟩
theorem Sx.below(h:Sx w0 cb rb ob zb bu bh fl W K L st le us hs KS room w)(h0:¬XR cb rb 0)(hb:Bw w w'):Sx w0 cb rb ob zb bu bh fl W K L st le us hs KS room w':=
 h.ex' h0 (an hb) (h.ch.ex (an (X:=λ_=>False) hb) λe=>e) (bk hb h.run)
end
section
variable{rb ob:Nat}{fl:Value}{W K0:List Int}{st le R:Int}{us:List Bool}{hs:List ByteArray}
theorem EZ(SY:KS.length=64)(hu:us.length=4)(hh:hs.length=4)(h0:¬XR cb rb 0)(hob:w0.heap.size<=ob)(hcb:cb<w0.heap.size)(YJ:rb<w0.heap.size)(hk:k<2){gr room:Int}(Vi:room<9223372036854775808){K:List Int}(hN:Nt ns K0 R i K room)(hn:∀n c,lQ KS (L.extract (k*8192) (k*8192+8192)) le us hs n c->ns[i]?=some (16+16*(k:Int)+c)/\(c=0->ns[i+1]?=some 9))(hS:Sx w0 cb rb ob zb bu bh fl W K L st le us hs KS room w)
 (J:aB [(0,.pk rb 0),(2,.pk ob 0),(3,.pk zb 0),(5,.int .i64 gr),(37,.agg #[.int .i64 16,.int .i64 32]),(38,.int .i64 k)] 71 [] a)
 (ct:∀ch (a:Act) (k:List Item) w',a.defers=[]->R<ns.length->yq cb rb fl W (nts K0 (ns.take R.toNat)) w0 (.panicked ch) w'->Rn kX Goal {(base 126).atR a k with mode:=.panicking ch} cs w')
 (nj:∀n a' w' K' r' I,lQ KS (L.extract (k*8192) (k*8192+8192)) le us hs n 0->Nt ns K0 R (i+1+1) K' r'->aB [(2,.pk ob 0)] 71 [] a'->w'.heap[ob]?=some (.cells (bo 0 true k n 0) 100)->i8 w' cb fl W K' true k->w'.heap[rb]?=some (.cells (kz cb r' false) 151)->j7 w' fl L->Ex (XR cb rb) w0 w'->Rn kX Goal ((base 126).atR a' (.code .ret::I)) cs w')
 (nn:∀n c a' w' K',lQ KS (L.extract (k*8192) (k*8192+8192)) le us hs n c->c≠0->Nt ns K0 R (i+1) K' (room- 1)->aB [(0,.pk rb 0),(2,.pk ob 0),(3,.pk zb 0),(5,.int .i64 (max gr c)),(37,.agg #[.int .i64 16,.int .i64 32]),(38,.int .i64 ((k+1:Nat):Int))] 71 [] a'->Sx w0 cb rb ob zb bu bh fl W K' L st le us hs KS (room- 1) w'->Rn kX Goal ((base 126).atR a' [.code (Qi f126),.inLoop (Qi f126),.inBlock 0,.code (G9 f126)]) cs w'):
 Rn kX Goal ((base 126).atR a [.code (Qi f126),.inLoop (Qi f126),.inBlock 0,.code (G9 f126)]) cs w:=by
 refine ao J λa J=>?_;refine a9 rfl (a9 rfl (ak _ (J.Q 39) ?_));rw[decide_eq_true (by omega:(k:Int)<2)];refine ao J λa J=>?_;refine ai J (λo ho=>PV hk ho (J.Q 37) (J.Q 38)) λa J=>?_
 iterate 2 refine ao J λa J=>?_
 obtain⟨n,c,hP,hck⟩:=Kt KS SY (L.extract (k*8192) (k*8192+8192)) st le (.sk bu 4 4) (.sk bh 4 4) us hs o_ (by rw[aw6];omega);obtain⟨Wi,Um⟩:=hn n c hP;have hcb':=pe hP;have J:aB [(0,.pk rb 0),(2,.pk ob 0),(3,.pk zb 0),(5,.int .i64 gr),(37,.agg #[.int .i64 16,.int .i64 32]),(38,.int .i64 k),(6,.int .i64 k),(7,.int .i64 ((16+16*k:Nat):Int))] 71 [] a:=J.only ⟨rfl,rfl,rfl,rfl,rfl,rfl,rfl,rfl,trivial⟩;have Ti:=hS.run;have hfus:=hS.fus;refine a9 rfl (a9 rfl ?_);refine cC J ?_
 iterate 3 refine kO ?_
 refine aj ?_ (y:=λo a w ho z=>(av BA ho gx ((ar (bk z.b Ti) _).trans rfl)).1);refine kO ?_;refine cy func160 (λw h _=>(NJ k hk (hS.below h0 h).ch (hS.below h0 h).fls).mono λ_ _ h=>⟨h.1,h.2▸aw8 _ _⟩) ?_;refine aj ?_;refine cy func40 (λw h _=>hck w (AZ (hS.below h0 h).us (by simpa using hu)) (AZ (hS.below h0 h).hs (by simpa using hh)) (hS.below h0 h).tab (hS.below h0 h).pos) ?_
 iterate 5 refine aj ?_
 refine cc λa w1 J b1 _=>?_;have Vo:=hS.below h0 b1;have e2:((16+16*k:Nat):Int)+c=16+16*(k:Int)+c:=by omega
 iterate 4 refine ao J λa J=>?_
 rw[e2]at J;refine oB J func157 (BH _ Vi Vo.ch Vo.run) (λv w2 hv a J=>?_) λch w2 hc=>by
  obtain⟨e3,e4⟩:=hN.cut hc.1 Wi;exact ct ch _ _ w2 J.defers e4 (e3▸hc.2.from Vo.ex)
 obtain⟨rfl,hr,h2,r2,x2⟩:=hv;have hN2:=hN.next hr Wi;have Vy:=Vo.ex' h0 x2 h2 r2
 iterate 2 refine ao J λa J=>?_
 refine a9 rfl (ak _ (J.Q 59) ?_);by_cases hc:c=0
 .subst hc
  iterate 3 refine ao J λa J=>?_
  refine oB J func161 (Qv k n o_ Vy.ch Vy.run) (λv w3 hv a J=>?_) λch w2 hc=>by
   obtain⟨e3,e4⟩:=hN2.cut hc.1 (Um rfl);exact ct ch _ _ w2 J.defers e4 (e3▸hc.2.from Vy.ex)
  obtain⟨rfl,hr3,h3,r3,x3⟩:=hv;have o3:=x3.at (kC Vy.ch.to Vy.run Vy.out d_ d_) Vy.out;refine aP J (λo ho=>dM ho (J.Q 2) (J.Q 63) o3 rfl) λa J=>?_;have x4:=bC (w:=w3) ob (bo 0 true k n 0) 100;refine a9 rfl ?_;refine nj n _ _ _ _ _ hP (hN2.next hr3 (Um rfl)) (J.only ⟨rfl,trivial⟩) (aZ o3) (h3.ex x4 o_) (x4.at o_ r3) (((Vy.fls.keep x3 (mH Vy.ch.to Vy.run)).keep x4 λb cs fr hb e=>?_)) ((Vy.ex.trans x3 λ_ _ e=>e).trans x4 λb hb e=>by omega);rw[e,o3]at hb;injection hb with hb;injection hb with _ hb;cases hb
 .rw[show(c==0)=false from by simpa using hc]
  iterate 2 refine ao J λa J=>?_
  refine sP J (hy:=by intro o ho;exact Dv ho (J.Q 64) (J.Q 65) rfl) λa J=>?_;refine ao J λa J=>?_;refine ai J (λo ho=>aN (n:=1) ho (J.Q 38) rfl o_) λa J=>?_;refine ao J λa J=>?_;exact a9 rfl (a9 rfl (nn n c _ _ _ hP hc hN2 (J.only ⟨rfl,rfl,rfl,rfl,rfl,rfl,trivial⟩) Vy))
theorem M1(SY:KS.length=64)(hu:us.length=4)(hh:hs.length=4)(h0:¬XR cb rb 0)(hob:w0.heap.size<=ob)(hcb:cb<w0.heap.size)(YJ:rb<w0.heap.size){room:Int}(Vi:room<9223372036854775808){K:List Int}{j:Bool}{s n:Int}(hN:Nt ns K0 R 1 K room)(hS:Sx w0 cb rb ob zb bu bh fl W K L st le us hs KS room w)
 (hQ:∃n0 c0,lQ KS (L.extract 0 8192) le us hs n0 c0/\((c0=0/\ns=[1,16,9]/\j=true/\s=0/\n=n0/\c=0)\/
  (c0≠0/\∃n1 c1,lQ KS (L.extract 8192 16384) le us hs n1 c1/\((c1=0/\ns=[1,16+c0,32,9]/\j=true/\s=1/\n=n1/\c=0)\/(c1≠0/\ns=[1,16+c0,32+c1,4]/\j=false/\s=0/\n=0/\c=max c0 c1)))))
 (J:aB [(0,.pk rb 0),(2,.pk ob 0),(3,.pk zb 0)] 71 [] a)
 (ct:∀ch (a:Act) (k:List Item) w',a.defers=[]->R<ns.length->yq cb rb fl W (nts K0 (ns.take R.toNat)) w0 (.panicked ch) w'->Rn kX Goal {(base 126).atR a k with mode:=.panicking ch} cs w')
 (nt:∀a' w' K' k r' I,ns.length=k->Nt ns K0 R k K' r'->aB [(2,.pk ob 0)] 71 [] a'->w'.heap[ob]?=some (.cells (bo 0 j s n c) 100)->i8 w' cb fl W K' j s->w'.heap[rb]?=some (.cells (kz cb r' false) 151)->j7 w' fl L->Ex (XR cb rb) w0 w'->Rn kX Goal ((base 126).atR a' (.code .ret::I)) cs w'):
 Rn kX Goal ((base 126).atR a [.code (Ft f126)]) cs w:=by
 obtain⟨n0,c0,Yq,hq⟩:=hQ;refine ao J λa J=>?_;refine ai J (λo ho=>Me rfl ho rfl rfl) λa J=>?_;refine ao J λa J=>?_;refine a9 rfl (a9 rfl (a9 rfl ?_));refine EZ (k:=0) (i:=1) SY hu hh h0 hob hcb YJ o_ Vi hN (λn c h=>by
  obtain⟨rfl,rfl⟩:=iD h Yq;rcases hq with⟨rfl,rfl,_⟩|⟨hc,n1,c1,_,⟨_,rfl,_⟩|⟨_,rfl,_⟩⟩
  .exact⟨rfl,λ_=>rfl⟩
  .exact⟨by simp,λe=>absurd e hc⟩
  .exact⟨by simp,λe=>absurd e hc⟩) hS (J.only ⟨rfl,rfl,rfl,rfl,rfl,rfl,trivial⟩) ct (λn' a w K' r' I hP hN J ho hc hr hf hx=>by
  obtain⟨rfl,rfl⟩:=iD hP Yq;rcases hq with⟨_,rfl,rfl,rfl,rfl,rfl⟩|⟨hc,_⟩
  .exact nt a w K' _ r' I rfl hN J ho hc hr hf hx
  .exact absurd rfl hc) λn' c' a w K hP W7 hN J hS=>?_
 obtain⟨rfl,rfl⟩:=iD hP Yq;obtain⟨n1,c1,YZ,hq⟩:∃n1 c1,lQ KS (L.extract 8192 16384) le us hs n1 c1/\((c1=0/\ns=[1,16+c',32,9]/\j=true/\s=1/\n=n1/\c=0)\/(c1≠0/\ns=[1,16+c',32+c1,4]/\j=false/\s=0/\n=0/\c=max c' c1)):=by
  rcases hq with⟨e,_⟩|⟨_,h⟩
  .exact absurd e W7
  .exact h
 refine EZ (k:=1) (i:=2) SY hu hh h0 hob hcb YJ o_ o_ hN (λn c h=>by
  obtain⟨rfl,rfl⟩:=iD h YZ;rcases hq with⟨rfl,rfl,_⟩|⟨hc,rfl,_⟩
  .exact⟨rfl,λ_=>rfl⟩
  .exact⟨by simp,λe=>absurd e hc⟩) hS J ct (λn' a w K' r' I hP hN J ho hc hr hf hx=>by
  obtain⟨rfl,rfl⟩:=iD hP YZ;rcases hq with⟨_,rfl,rfl,rfl,rfl,rfl⟩|⟨hc,_⟩
  .exact nt a w K' _ r' I rfl hN J ho hc hr hf hx
  .exact absurd rfl hc) λn2 c2 a w K Zk Tn hN J hS=>?_
 obtain⟨rfl,rfl⟩:=iD Zk YZ;obtain⟨rfl,rfl,rfl,rfl,rfl⟩:ns=[1,16+c',32+c2,4]/\j=false/\s=0/\n=0/\c=max c' c2:=by
  rcases hq with⟨e,_⟩|⟨_,h⟩
  .exact absurd e Tn
  .exact h
 have b0:=pe Yq;have b1:=pe YZ;refine ao J λa J=>?_;refine a9 rfl (a9 rfl (ak _ (J.Q 39) ?_));rw[decide_eq_false o_]
 iterate 2 refine ao J λa J=>?_
 have em:max (max 0 c') c2=max c' c2:=by omega
 rw[em]at J;refine oB J func159 (ED 4 (max c' c2) o_ hS.ch hS.run) (λv w3 hv a J=>?_) λch w2 hc=>by
  obtain⟨e3,e4⟩:=hN.cut hc.1 (n:=4) rfl;exact ct ch _ _ w2 J.defers e4 (e3▸hc.2.from hS.ex)
 obtain⟨rfl,hr3,h3,r3,x3⟩:=hv;have o3:=x3.at (kC hS.ch.to hS.run hS.out d_ d_) hS.out;refine aP J (λo ho=>dM ho (J.Q 2) (J.Q 70) o3 rfl) λa J=>?_;have x4:=bC (w:=w3) ob (bo 0 false 0 0 (max c' c2)) 100;refine a9 rfl ?_;refine nt _ _ _ _ _ _ rfl (hN.next hr3 (n:=4) rfl) (J.only ⟨rfl,trivial⟩) (aZ o3) (h3.ex x4 o_) (x4.at o_ r3) (((hS.fls.keep x3 (mH hS.ch.to hS.run)).keep x4 λb cs fr hb e=>?_)) ((hS.ex.trans x3 λ_ _ e=>e).trans x4 λb hb e=>by omega);rw[e,o3]at hb;injection hb with hb;injection hb with _ hb;cases hb
end

theorem wt{W:List Int}{j:Bool}{s n:Int}(h:eU KS W L ns j s n c):ns[0]?=some 1:=by
 obtain⟨st,le,cr,us,hs,_,⟨_,rfl,_⟩|⟨_,_,_,rfl,_⟩|⟨_,_,n0,c0,_,⟨_,rfl,_⟩|⟨_,n1,c1,_,⟨_,rfl,_⟩|⟨_,rfl,_⟩⟩⟩⟩:=h<;>rfl
theorem Nt.full{K0 K:List Int}{room r:Int}(h:Nt ns K0 room k K r)(hk:ns.length=k)(hns:ns≠[]):K=nts K0 ns/\(ns.length:Int)<=room:=(h.all hk).resolve_right hns
def Hs(room:Int)(K ns:List Int)(j:Bool)(s n c:Int)(W:List Int)(L:ByteArray)(fl:Value)(cb rb:Nat)(w:World)(e:Ending)(w':World):Prop:=(∃v,e=.returned v/\(v=.agg (bo 0 j s n c)/\(ns.length:Int)<=room/\i8 w' cb fl W (nts K ns) j s/\(∃U0,w'.heap[rb]?=some (.cells (kz cb U0 false) 151))/\j7 w' fl L/\Ex (XR cb rb) w w'))\/∃ch,e=.panicked ch/\(room<ns.length/\yq cb rb fl W (nts K (ns.take room.toNat)) w (.panicked ch) w')
def Cf(room:Int)(K ns:List Int)(j:Bool)(s n c:Int)(W:List Int)(L:ByteArray)(fl:Value)(cb rb:Nat)(w:World)(cs:List Frame)(g:Goroutine)(w':World):Prop:=(∃(a:Act) (k:List Item) (bk:Nat) (cells:Array Value) (tt:TypeId),g=dj {(base 126).atR a k with mode:=.returning} cs/\a.defers=[]/\a.tmps[2]?=some (.pk bk 0)/\w'.heap[bk]?=some (.cells cells tt)/\cells.size=5/\Hs room K ns j s n c W L fl cb rb w (.returned (.agg cells)) w')\/AO 126 cs (Hs room K ns j s n c W L fl cb rb w) g w'
section
variable{rb:Nat}{fl:Value}{W K:List Int}{room:Int}{j:Bool}{s n:Int}
theorem L_(VD:kN)(SY:KS.length=64)(hQ:eU KS W L ns j s n c)(h:i8 w cb fl W K false 0)(hW:dL W)(hb:w.heap[rb]?=some (.cells (kz cb room false) 151))(Vi:room<9223372036854775808)(hf:j7 w fl L)(h0:¬XR cb rb 0)(hK:w.rangeAt 0 0 (aI KS)):
 Cl kX 126 #[.pk rb 0] w (Hs room K ns j s n c W L fl cb rb w):=by
 refine sN (t:=2) (ty:=100) (n:=5) func126 rfl (by exact underlying100) rfl iY λcs=>?_;show Rn _ (Cf room K ns j s n c W L fl cb rb w cs) _ _ _;refine bv (N:=71) func126 DW λa J=>?_;have hN:Nt ns K room 0 K room:=Nt.start;have Wi:=wt hQ;have hns:ns≠[]:=λe=>by rw[e]at Wi;cases Wi
 refine bA J (λo ho=>i2 ho) λw1 a b1 c1 z1 J=>?_;have hl:=h.lt;have VK:=aA hb;have h1:=h.ex (an (X:=λ_=>False) b1) (λe=>e);have f1:=hf.keep (an (X:=λ_=>False) b1) (λ_ _ _ _ e=>e);have Yr:=cW (an (X:=λ_=>False) b1) (λe=>e) o_ hK;have SZ:=bk b1 hb;refine ao J λa J=>?_;have ct:∀ch (a:Act) (k:List Item) w',a.defers=[]->room<ns.length->yq cb rb fl W (nts K (ns.take room.toNat)) w (.panicked ch) w'->Rn kX (Cf room K ns j s n c W L fl cb rb w cs) {(base 126).atR a k with mode:=.panicking ch} cs w':=λch a k w' hd hl hc=>bj (.inr ⟨a,k,ch,rfl,hd,.inr ⟨ch,rfl,hl,hc⟩⟩);refine oB J func157 (BH 1 Vi h1 SZ) (λv w2 hv a J=>?_) λch w2 hc=>by
  obtain⟨e3,e4⟩:=hN.cut hc.1 Wi;exact ct ch _ _ w2 J.defers e4 (e3▸hc.2.from (an b1))
 obtain⟨rfl,hr,h2,S_,x2⟩:=hv;have hN1:=hN.next hr Wi;have z2:=x2.size;have c2:=x2.at (by rintro(e|e)<;>omega) c1;have f2:=f1.keep x2 (mH h1.to SZ);have VZ:=cW x2 h0 o_ Yr;have X2:Ex (XR cb rb) w w2:=(an b1).trans x2 λb _ e=>e
 iterate 6 refine ao J λa J=>?_
 refine ai J (λo ho=>uV ho (J.Q 18)) λa J=>?_;refine bp J func158 (VD W w2 cb 1 85 (aw0 _) hW (xT h2.to) h2.lt) λv w3 hv a J=>?_;obtain⟨st,le,cr,pu,lu,qu,ph,lh,qh,us,hs,rfl,hP,b3,hz⟩:=hv;obtain⟨st',le',cr',us',Uu,Zk,hQ⟩:=hQ;obtain⟨rfl,hcc⟩:=Fv hP Zk;have h3:=h2.ex (an (X:=λ_=>False) b3) (λe=>e);have f3:=f2.keep (an (X:=λ_=>False) b3) (λ_ _ _ _ e=>e);have hl3:=h2.lt;have Y7:=cW (an (X:=λ_=>False) b3) (λe=>e) o_ VZ;have Td:=bk b3 S_;have c3:=bk b3 c2;have z3:=b3.size
 iterate 3 refine ao J λa J=>?_
 refine bA J (λo ho=>u7 ho) λw4 a b4 c4 z4 J=>?_;have h4:=h3.ex (an (X:=λ_=>False) b4) (λe=>e);have f4:=f3.keep (an (X:=λ_=>False) b4) (λ_ _ _ _ e=>e);have Y6:=cW (an (X:=λ_=>False) b4) (λe=>e) o_ Y7;have Tk:=bk b4 Td;have o4:=bk b4 c3;refine aP J (λo ho=>mp ho (J.Q 3) (J.Q 21) c4 rfl) λa J=>?_;have x5:=bC (w:=w4) w3.heap.size (eT st le (.slice pu lu qu) (.slice ph lh qh)) 45;have c5:=aZ (w:=w4) (cs:=eT st le (.slice pu lu qu) (.slice ph lh qh)) (t:=45) c4;have X5:Ex (XR cb rb) w (put w4 w3.heap.size (eT st le (.slice pu lu qu) (.slice ph lh qh)) 45):=((X2.trans (an (X:=λ_=>False) b3) λ_ _ e=>e.elim).trans (an (X:=λ_=>False) b4) λ_ _ e=>e.elim).trans x5 λb hb e=>by omega
 have h5:=h4.ex x5 o_;have TI:=x5.at o_ Tk;have o5:=x5.at o_ o4;have f5:=f4.keep x5 λb cs fr hb e=>by
  rw[e,c4]at hb;injection hb with hb;injection hb with _ hb;cases hb
 have hK5:=cW x5 o_ o_ Y6;have hz5:cr=0->∃bu bh,pu=some ⟨bu,0,none⟩/\lu=4/\qu=4/\ph=some ⟨bh,0,none⟩/\lh=4/\qh=4/\(put w4 w3.heap.size (eT st le (.slice pu lu qu) (.slice ph lh qh)) 45).heap[bu]?=some (.cells (us.map Value.bool).toArray 4)/\(put w4 w3.heap.size (eT st le (.slice pu lu qu) (.slice ph lh qh)) 45).heap[bh]?=some (.cells (hs.map Value.string).toArray 9):=λe=>by
  obtain⟨bu,bh,e1,e2,e3,e4,e5,e6,e7,e8⟩:=hz e;have l7:=aA e7;have l8:=aA e8;exact⟨bu,bh,e1,e2,e3,e4,e5,e6,x5.at o_ (bk b4 e7),x5.at o_ (bk b4 e8)⟩
 have s5:w.heap.size<=(put w4 w3.heap.size (eT st le (.slice pu lu qu) (.slice ph lh qh)) 45).heap.size:=X5.size;clear hz;revert c5 X5 h5 TI o5 f5 hK5 hz5 s5;generalize put w4 w3.heap.size (eT st le (.slice pu lu qu) (.slice ph lh qh)) 45=w5;intro c5 X5 h5 TI o5 f5 hK5 hz5 s5;clear x5 Y6 Tk o4 h4 f4 h3 f3 Y7 Td c3 h2 f2 VZ S_ c2
 iterate 3 refine ao J λa J=>?_
 refine a9 rfl (ak _ (J.Q 24) ?_);have fin:∀(c':Int) {a:Act} {w6 w7:World} {I:List Item} {K':List Int} {r':Int} {k:Nat},j=false/\s=0/\n=0/\c=c'->ns.length=k->Nt ns K room k K' r'->i8 w6 cb fl W K' false 0->w6.heap[rb]?=some (.cells (kz cb r' false) 151)->Ex (XR cb rb) w5 w6->w7=put w6 w.heap.size (bo 0 false 0 0 c') 100->aB [(2,.pk w.heap.size 0)] 71 [] a->Rn kX (Cf room K ns j s n c W L fl cb rb w cs) ((base 126).atR a (.code .ret::I)) cs w7:=λc' a w6 w7 I K' r' k Tg hk hNk h6 r6 x6 e7 J=>by
  subst e7;obtain⟨rfl,rfl,rfl,rfl⟩:=Tg;have o6:=x6.at (kC h5.to TI o5 d_ d_) o5;have x7:=bC (w:=w6) w.heap.size (bo 0 false 0 0 c) 100;refine aS rfl (.inr ⟨_,rfl⟩) (bj (.inl ⟨_,_,w.heap.size,_,_,rfl,J.defers,J.slot 2 _ rfl,aZ o6,rfl,.inl ⟨_,rfl,rfl,?_,?_,⟨_,x7.at o_ r6⟩,((f5.keep x6 (mH h5.to TI)).keep x7 λb cs fr hb e=>?_),(X5.trans x6 λ_ _ e=>e).trans x7 λb hb e=>by omega⟩⟩))
  .exact(hNk.full hk hns).2
  .rw[←(hNk.full hk hns).1];exact h6.ex x7 o_
  rw[e,o6]at hb;injection hb with hb;injection hb with _ hb;cases hb
 by_cases hc:cr=0
 .subst hc;obtain⟨rfl,rfl,rfl,rfl⟩:=hcc rfl;obtain⟨bu,bh,rfl,rfl,rfl,rfl,rfl,rfl,hu5,hh5⟩:=hz5 rfl;have hS:Sx w cb rb w.heap.size w3.heap.size bu bh fl W _ L st le us hs KS (room- 1) w5:=⟨h5,TI,f5,o5,c5,hu5,hh5,hK5,X5⟩;have hlen:us.length=4/\hs.length=4:=by
   rcases hP with⟨_,_,_,_,rfl,rfl⟩|⟨_,e⟩
   .exact⟨by simp[yK],by simp[Gf]⟩
   .cases e
  have go:(st=255\/st=3855)->∀{a:Act},aB [(0,.pk rb 0),(2,.pk w.heap.size 0),(3,.pk w3.heap.size 0)] 71 [] a->Rn kX (Cf room K ns j s n c W L fl cb rb w cs) ((base 126).atR a [.code (Ft f126)]) cs w5:=λTg a J=>by
   refine M1 (j:=j) (s:=s) (n:=n) (c:=c) SY hlen.1 hlen.2 h0 (aw0 _) hl VK o_ hN1 hS ?_ J ct λa' w' K' k r' I hk hNk J ho VF hrn hfl hx=>?_
   .rcases hQ with⟨e,_⟩|⟨_,e1,e2,_⟩|⟨_,_,h⟩
    .exact absurd rfl e
    .exact(Tg.elim e1 e2).elim
    .exact h
   .exact aS rfl (.inr ⟨_,rfl⟩) (bj (.inl ⟨_,_,w.heap.size,_,_,rfl,J.defers,J.slot 2 _ rfl,ho,rfl,.inl ⟨_,rfl,rfl,(hNk.full hk hns).2,(hNk.full hk hns).1▸VF,⟨_,hrn⟩,hfl,hx⟩⟩))
  iterate 4 refine ao J λa J=>?_
  by_cases e1:st=255
  .rw[show(st !=255)=false from by simpa using e1]at J
   iterate 3 refine bY J λa J=>?_
   refine ai J (λo ho=>gk ho (J.Q 30) rfl) λa J=>?_;refine a9 rfl (ak _ (J.Q 34) ?_);exact a9 rfl (go (.inl e1) (J.only ⟨rfl,rfl,rfl,trivial⟩))
  .rw[show(st !=255)=true from by simpa using e1]at J
   iterate 3 refine ao J λa J=>?_
   refine ai J (λo ho=>fN ho (J.Q 30) (J.Q 33)) λa J=>?_;refine a9 rfl (ak _ (J.Q 34) ?_);by_cases e2:st=3855
   .rw[show(st !=3855)=false from by simpa using e2];exact a9 rfl (go (.inr e2) (J.only ⟨rfl,rfl,rfl,trivial⟩))
   .rw[show(st !=3855)=true from by simpa using e2];refine ao J λa J=>?_;obtain⟨rfl,ZJ⟩:ns=[1,3]/\j=false/\s=0/\n=0/\c=2:=by
     rcases hQ with⟨e,_⟩|⟨_,_,_,h⟩|⟨_,h,_⟩
     .exact absurd rfl e
     .exact h
     .exact(h.elim e1 e2).elim
    refine oB J func159 (ED 3 2 o_ h5 TI) (λv w6 hv a J=>?_) λch w2 hc=>by
     obtain⟨e3,e4⟩:=hN1.cut hc.1 (n:=3) rfl;exact ct ch _ _ w2 J.defers e4 (e3▸hc.2.from X5)
    obtain⟨rfl,hr6,h6,r6,x6⟩:=hv;refine aP J (λo ho=>dM ho (J.Q 2) (J.Q 36) (x6.at (kC h5.to TI o5 d_ d_) o5) rfl) λa J=>?_;exact a9 rfl (fin 2 ZJ rfl (hN1.next hr6 (n:=3) rfl) h6 r6 x6 rfl (J.only ⟨rfl,trivial⟩))
 .rw[show(cr !=0)=true from by simpa using hc];obtain⟨rfl,ZJ⟩:ns=[1,2]/\j=false/\s=0/\n=0/\c=1:=by
   rcases hQ with⟨_,h⟩|⟨e,_⟩|⟨e,_⟩
   .exact h
   .exact absurd e hc
   .exact absurd e hc
  refine ao J λa J=>?_;refine oB J func159 (ED 2 1 o_ h5 TI) (λv w6 hv a J=>?_) λch w2 hc=>by
   obtain⟨e3,e4⟩:=hN1.cut hc.1 (n:=2) rfl;exact ct ch _ _ w2 J.defers e4 (e3▸hc.2.from X5)
  obtain⟨rfl,hr6,h6,r6,x6⟩:=hv;refine aP J (λo ho=>dM ho (J.Q 2) (J.Q 26) (x6.at (kC h5.to TI o5 d_ d_) o5) rfl) λa J=>?_;exact a9 rfl (fin 1 ZJ rfl (hN1.next hr6 (n:=2) rfl) h6 r6 x6 rfl (J.only ⟨rfl,trivial⟩))
end

def LH(room:Int)(K ns:List Int)(j:Bool)(s n c:Int)(W:List Int)(L:ByteArray)(fl:Value)(cb rb:Nat)(w:World)(v:Value)(w':World):Prop:=((v=.agg (bo 0 j s n c)/\(ns.length:Int)<=room/\i8 w' cb fl W (nts K ns) j s/\j7 w' fl L/\∃U0,w'.heap[rb]?=some (.cells (kz cb U0 false) 151))\/(v=.agg (bo 0 false 0 0 0)/\room<ns.length/\i8 w' cb fl W (nts K (ns.take room.toNat)) false 0/\j7 w' fl L/\∃U0,w'.heap[rb]?=some (.cells (kz cb U0 true) 151)))/\Ex (XR cb rb) w w'
section
variable{rb:Nat}{fl:Value}{W K:List Int}{room:Int}{j:Bool}{s n:Int}
theorem SL(VD:kN)(SY:KS.length=64)(hQ:eU KS W L ns j s n c)(h:i8 w cb fl W K false 0)(hW:dL W)(hb:w.heap[rb]?=some (.cells (kz cb room false) 151))(Vi:room<9223372036854775808)(hf:j7 w fl L)(h0:¬XR cb rb 0)(hK:w.rangeAt 0 0 (aI KS))(cs:List Frame):
 Rn kX (λg w'=>∃(a:Act) (k:List Item) (bk:Nat) (cells:Array Value) (tt:TypeId),g=dj {(base 100).atR a k with mode:=.returning} cs/\a.defers=[]/\a.tmps[2]?=some (.pk bk 0)/\w'.heap[bk]?=some (.cells cells tt)/\cells.size=5/\LH room K ns j s n c W L fl cb rb w (.agg cells) w') (ay2 prog 100 #[.pk rb 0] .normal) cs w:=by
 refine bv (N:=6) func100 Ol λa J=>?_;have hl:=h.lt;have VK:=aA hb;refine bA J (λo ho=>Bn rfl ho (J.Q 0)) λw1 a b1 c1 z1 J=>?_;refine bA J (λo ho=>i2 ho) λw2 a b2 c2 z2 J=>?_;have B2:Bw w w2:=ae b1 b1.size b2;have h2:=h.ex (an (X:=λ_=>False) B2) (λe=>e);have f2:=hf.keep (an (X:=λ_=>False) B2) (λ_ _ _ _ e=>e);have VZ:=cW (an (X:=λ_=>False) B2) (λe=>e) o_ hK;have S_:=bk B2 hb;have c1:=bk b2 c1;refine ai (w':=w2) J (v:=.func (.func 125) #[] #[.pk w.heap.size 0]) (λo ho=>?_) λa J=>?_
 .have:=(ee (ev:=a.eval) (w:=w2) prog (cap:=#[.tmp 1]) ho).1
  rwa [show(#[Operand.tmp 1]:Array Operand).map a.eval=#[.pk w.heap.size 0]from by simp[J.Q 1]]at this
 refine P6 (d:=3) J rfl rfl rfl rfl rfl rfl rfl rfl λa J=>?_;refine ai J (λo ho=>(av (v:=.pk rb 0) nP ho (J.Q 1) ((ar c1 0).trans rfl)).1) λa J=>?_;refine oB J func126 (L_ VD SY hQ h2 hW S_ Vi f2 h0 VZ) (λv w3 hv a J=>?_) λch w3 hc=>?_
 rotate_left
 .obtain⟨hlo,v,on,sl,U0,e,h3,r3,x3⟩:=hc;cases e;have o3:=x3.at (by rintro(e|e)<;>omega) c2;have p3:=x3.at (by rintro(e|e)<;>omega) c1;have f3:=f2.keep x3 (mH h2.to S_);have T2:=Ar h.to hb;refine yh (g:=125) s_ J.defers func125 k_ d_ ?_;have sl2:=J.slot 2 _ rfl;generalize hfr:({{(base 100).atR a _ with mode:=.panicking [{v:=v,recovered:=false}]}with defers:=[]}:Frame)=frD;have T1:frD.mode=.panicking [{v:=v,recovered:=false}]:=by rw[←hfr]
  show Rn _ _ (ay2 _ _ ([.pk w.heap.size 0]:List Value).toArray .deferred) _ _;rw[BW (N:=11) [.pk w.heap.size 0] func125 GW rfl];have hG:=dF [.pk w.heap.size 0] 11 s_;refine ai hG (λo ho=>(av (v:=.pk rb 0) nP ho (hG.Q 0) ((ar p3 0).trans rfl)).1) λa J=>?_
  iterate 3 refine ao J λa J=>?_
  refine a9 rfl (ak _ (J.Q 4) ?_);refine ai J (λo ho=>(av (v:=.pk rb 0) nP ho (J.Q 0) ((ar p3 0).trans rfl)).1) λa J=>?_
  iterate 3 refine ao J λa J=>?_
  refine bz J func99 (uG h3) λw4 ⟨h4,x4,z4⟩ a J=>?_;have o4:=x4.at o_ o3;have r4:=x4.at (aA3 T2) r3;have f4:=f3.keep x4 λb cs fr hb e=>mH h3.to r3 b cs fr hb (.inl e);refine bK (P3 (d:=10) J rfl rfl rfl rfl rfl d_ rfl rfl T1 λa J=>?_);refine a9 rfl (aS rfl (.inl rfl) ?_);refine yi (v:=.tuple #[]) (fn:=f125) rfl J.defers func125 k_ ?_;subst hfr;exact bj ⟨⟨_,[]⟩,_,w1.heap.size,_,_,rfl,rfl,sl2,o4,rfl,.inr ⟨rfl,hlo,h4,f4,_,r4⟩,((an (X:=XR cb rb) B2).trans x3 λ_ _ e=>e).trans x4 λb _ e=>.inl e⟩
 obtain⟨rfl,Tg,h3,⟨U0,r3⟩,f3,x3⟩:=hv;have o3:=x3.at (by rintro(e|e)<;>omega) c2;have p3:=x3.at (by rintro(e|e)<;>omega) c1;refine aP J (λo ho=>dM ho (J.Q 2) (J.Q 5) o3 rfl) λa J=>?_;have x4:=bC (w:=w3) w1.heap.size (bo 0 j s n c) 100;have h4:=h3.ex x4 o_;have r4:=x4.at o_ r3;have p4:=x4.at o_ p3;have o4:=aZ (w:=w3) (cs:=bo 0 j s n c) (t:=100) o3;have f4:=f3.keep x4 λb cs fr hb e=>by
  rw[e,o3]at hb;injection hb with hb;injection hb with _ hb;cases hb
 have X4:=((an (X:=XR cb rb) B2).trans x3 λ_ _ e=>e).trans x4 λb hb e=>by omega
 revert h4 r4 p4 o4 f4 X4;generalize put w3 w1.heap.size (bo 0 j s n c) 100=w4;intro h4 r4 p4 o4 f4 X4;refine a9 rfl (aS rfl (.inr ⟨_,rfl⟩) ?_);refine yh (g:=125) s_ J.defers func125 k_ d_ ?_;have sl2:=J.slot 2 _ rfl;generalize hfr:({{(base 100).atR a _ with mode:=.returning}with defers:=[]}:Frame)=frD;show Rn _ _ (ay2 _ _ ([.pk w.heap.size 0]:List Value).toArray .deferred) _ _;rw[BW (N:=11) [.pk w.heap.size 0] func125 GW rfl];have hG:=dF [.pk w.heap.size 0] 11 s_;refine ai hG (λo ho=>(av (v:=.pk rb 0) nP ho (hG.Q 0) ((ar p4 0).trans rfl)).1) λa J=>?_
 iterate 3 refine ao J λa J=>?_
 refine a9 rfl (ak _ (J.Q 4) ?_);refine a9 rfl (aS rfl (.inl rfl) ?_);refine yi (v:=.tuple #[]) (fn:=f125) rfl J.defers func125 k_ ?_;subst hfr;exact bj ⟨⟨_,[]⟩,_,w1.heap.size,_,_,rfl,rfl,sl2,o4,rfl,.inl ⟨rfl,Tg,h4,f4,_,r4⟩,X4⟩
end

section
variable{W ns':List Int}{j j':Bool}{s n s' n' c':Int}
theorem oF(h:eU KS W L ns j s n c):ns.length<=4:=by
 obtain⟨st,le,cr,us,hs,_,h⟩:=h;rcases h with⟨_,rfl,_⟩|⟨_,_,_,rfl,_⟩|⟨_,_,n0,c0,_,⟨_,rfl,_⟩|⟨_,n1,c1,_,⟨_,rfl,_⟩|⟨_,rfl,_⟩⟩⟩<;>simp
theorem Cn(h:eU KS W L ns j s n c)(h':eU KS W L ns' j' s' n' c'):ns=ns'/\j=j'/\s=s'/\n=n'/\c=c':=by
 obtain⟨st,le,cr,us,hs,hR,h⟩:=h;obtain⟨st',le',cr',us',Uu,Yp,h'⟩:=h';obtain⟨e,e2⟩:=Fv hR Yp;subst e;rcases h with⟨c1,rfl,rfl,rfl,rfl,rfl⟩|h
 .rcases h' with⟨_,rfl,rfl,rfl,rfl,rfl⟩|⟨h0,_⟩|⟨h0,_⟩
  .exact⟨rfl,rfl,rfl,rfl,rfl⟩
  .exact absurd h0 c1
  .exact absurd h0 c1
 .have W7:cr=0:=h.elim (·.1) (·.1);obtain⟨rfl,rfl,rfl,rfl⟩:=e2 W7;have h':=h'.resolve_left λg=>g.1 W7;rcases h with⟨_,n1,n2,rfl,rfl,rfl,rfl,rfl⟩|⟨_,UE,n0,c0,k0,h⟩
  .rcases h' with⟨_,_,_,rfl,rfl,rfl,rfl,rfl⟩|⟨_,g,_⟩
   .exact⟨rfl,rfl,rfl,rfl,rfl⟩
   .exact(g.elim n1 n2).elim
  .rcases h' with⟨_,n1,n2,_⟩|⟨_,_,n0',c0',k0',h'⟩
   .exact(UE.elim n1 n2).elim
   .obtain⟨rfl,rfl⟩:=iD k0 k0';rcases h with⟨q,rfl,rfl,rfl,rfl,rfl⟩|⟨q,n1,c1,k1,h⟩
    .rcases h' with⟨_,rfl,rfl,rfl,rfl,rfl⟩|⟨q',_⟩
     .exact⟨rfl,rfl,rfl,rfl,rfl⟩
     .exact absurd q q'
    .rcases h' with⟨q',_⟩|⟨_,n1',c1',k1',h'⟩
     .exact absurd q' q
     .obtain⟨rfl,rfl⟩:=iD k1 k1';rcases h with⟨q1,rfl,rfl,rfl,rfl,rfl⟩|⟨q1,rfl,rfl,rfl,rfl,rfl⟩<;>rcases h' with⟨q2,rfl,rfl,rfl,rfl,rfl⟩|⟨q2,rfl,rfl,rfl,rfl,rfl⟩
      .exact⟨rfl,rfl,rfl,rfl,rfl⟩
      .exact absurd q1 q2
      .exact absurd q2 q1
      .exact⟨rfl,rfl,rfl,rfl,rfl⟩
end
section
variable{rb:Nat}{fl:Value}{W K:List Int}{j:Bool}{s n room:Int}{on:Bool}{p:Option Addr}
theorem QG(VD:kN)(SY:KS.length=64)(hQ:eU KS W L ns j s n c)(h:i8 w cb fl W K false 0)(hW:dL W)(hb:w.heap[rb]?=some (.cells (kz cb room false) 151))(Vi:room<9223372036854775808)(hf:j7 w fl L)(h0:¬XR cb rb 0)(hK:w.rangeAt 0 0 (aI KS)):
 Cl kX 100 #[.pk rb 0] w λe w'=>∃v,e=.returned v/\LH room K ns j s n c W L fl cb rb w v w':=by
 refine cJ (t:=2) (ty:=100) (n:=5) func100 rfl (by exact underlying100) rfl iY λcs=>?_;exact(SL VD SY hQ h hW hb Vi hf h0 hK cs).wide λg w' ⟨a,k,bk,cells,tt,h2,h3,h4,h5,h6,h7⟩=>⟨a,k,bk,cells,tt,h2,h3,h4,h5,h6,_,rfl,h7⟩
end

def L4(v:Value):Prop:=iL v=true\/∃xs:Array Value,v=.agg xs/\∀u∈xs,iL u=true
theorem ip{α:Type}{t:TypeId}{xs:Array Value}{off:Nat}{k:Value->Sem α}(h:∀u∈xs,iL u=true)(hk:∀v,L4 v->aM P (k v)):aM P (part t xs off>>=k):=by
 unfold part;rw[bind_assoc];refine(sA t).bind λq=>?_;cases q with
 |true=>
  simp only[if_true];rw[bind_assoc];refine(ft t).bind λn=>hk _ (.inr ⟨_,rfl,λu hu=>h u ?_⟩);obtain⟨m,hm,e⟩:=Array.mem_iff_getElem.1 hu;rw[←e,Array.getElem_extract];exact Array.getElem_mem _
 |false=>
  simp only[Bool.false_eq_true,if_false];cases e:xs[off]? with
  |none=>exact .halt _
  |some v=>exact hk v (.inl (h v (Array.mem_of_getElem? e)))
theorem Dx:∀(d:Nat) (t:TypeId) (x y:Value),L4 x->L4 y->aM P (aI_ d t x y):=by
 intro d;induction d with
 |zero=>exact λ_ _ _ _ _=>.halt _
 |succ d ih=>
  intro t x y hx hy;rcases hx with hx|⟨xs,rfl,hx⟩
  .rcases hy with hy|⟨ys,rfl,hy⟩
   .exact mN t (.inl ⟨hx,hy⟩) _
   .unfold aI_;refine(br t).bind λu=>?_;cases x<;>first|(simp[iL]at hx;done)|(split<;>first|exact .halt _|contradiction)
  .rcases hy with hy|⟨ys,rfl,hy⟩
   .unfold aI_;refine(br t).bind λu=>?_;cases y<;>first|(simp[iL]at hy;done)|(split<;>first|exact .halt _|contradiction)
   .unfold aI_;refine(br t).bind λu=>?_;cases u<;>first|exact .halt _|skip
    .refine(ft _).bind λn=>?_;refine aM.bind ?_ λr=>?_
     .rw[aV1];refine kI _ (λf b=>?_) _ _;refine ip hx λv hv=>ip hy λv' U3=>(ih _ _ _ hv U3).bind λq=>?_;cases q<;>exact .pure _
     .obtain⟨r,_⟩:=r;cases r<;>exact .pure _
    .refine o0.bind λP'=>cY ((aM.halt _:aM P (unsupported _)).bind λ_=>?_) ?_
     all_goals
        refine(mM _ _ _ λf b=>cY (ip hx λv hv=>ip hy λv' U3=>(ih _ _ _ hv U3).bind λq=>?_) (.pure _)).bind λr=>?_
        .cases q<;>exact .pure _
        .obtain⟨r,_⟩:=r;cases r<;>exact .pure _
def N7(f:Func):Code:=.seq (.seq (rG f 4) (.cond (.tmp 13) .skip (.exit 0))) (.seq (.block 1 (rG f 6)) (rG f 5))
def MZ(f:Func):Code:=.seq (rG f 7) .ret
theorem O6:f45.body=some (.seq (rG f45 0) (.seq (rG f45 1) (.seq (rG f45 2) (.seq (.seq (rG f45 3) (.block 0 (.loop (N7 f45)))) (MZ f45))))):=by kernel_rfl
def JM(f:Func):Code:=.seq (.seq (rG f 3) (.cond (.tmp 15) .skip (.exit 0))) (.seq (.block 1 (.seq (rD f 5) (.cond (.tmp 45) (.seq (rG f 6) .ret) .skip))) (rG f 4))
def JJ(f:Func):Code:=.seq (rG f 7) .ret
theorem Od:f48.body=some (.seq (rG f48 0) (.seq (rG f48 1) (.seq (.seq (rG f48 2) (.block 0 (.loop (JM f48)))) (JJ f48)))):=by kernel_rfl
def Po(i:Nat):Array Value:=(ax2 i (Value.int .i64 77)++ax2 (4- i) (Value.int .i64 0)).toArray
theorem JB(hi:i<4):(Po i).setIfInBounds i (.int .i64 77)=Po (i+1):=by
 obtain rfl|rfl|rfl|rfl:i=0\/i=1\/i=2\/i=3:=by omega
 all_goals rfl
theorem MU(hi:i<4):(Po 4)[i]?=some (.int .i64 77):=by
 obtain rfl|rfl|rfl|rfl:i=0\/i=1\/i=2\/i=3:=by omega
 all_goals rfl
theorem MA{r s n:Int}{j:Bool}{u:TypeId}(SS:o.op=.binOp .eql 100 x y u)(hx:ev x=.agg (bo r j s n c))(hy:ev y=.agg (bo r j s n c)):(execOp ev o).run prog w=.ok (.value (.bool true)) w:=by
 simp[execOp,SS,hx,hy,go_sem,bo]
theorem Gy{r s n:Int}{j:Bool}{u:TypeId}(SS:o.op=.binOp .eql 100 x y u)(hx:ev x=.agg (bo r j s n c))(hy:ev y=.agg (bo r j s n c)):(execOp ev o).run prog w=.ok (.value (.bool true)) w/\aM prog (execOp ev o):=by
 refine⟨MA SS hx hy,?_⟩;have e:execOp ev o=(do pure (.value (←(do eqGuard .eql 100 x y (.agg (bo r j s n c)) (.agg (bo r j s n c));binOp .eql 100 (.agg (bo r j s n c)) (.agg (bo r j s n c)))))):=by simp only[execOp,SS,hx,hy]
 have hf:L4 (.agg (bo r j s n c)):=.inr ⟨_,rfl,by simp[bo,iL]⟩;rw[e];refine aM.bind (aM.bind ?_ λ_=>(Dx _ _ _ _ hf hf).bind λ_=>.pure _) λ_=>.pure _;refine .eqv (s':=.pure ()) (λw es=>?_) (.pure _);have h:prog.eqGuardType prog.depth 100=false:=by kernel_rfl
 simp[-az7,eqGuard,program,bind,Sem.bind,Sem.runT,pure,h]

theorem JF(h0:0<n)(hn:n<=17592186044416)(SS:o.op=.makeSlice 24 x y)(hx:ev x=.int .i64 n)(hy:ev y=.int .i64 n):
 (execOp ev o).run prog w=.ok (.value (.sk w.heap.size n n)) (w.alloc (.cells (ay3 n (.int .i64 0)) 3)):=by
 have hu:prog.underlying 24=some (.slice 3):=by kernel_rfl
 have wl:ax8.wrap (n:Int)=n:=by rw[ay4];omega
 obtain⟨i,hi,Uh⟩:=IS.1 (show(prog.info? 3).map (λi=>(i.zero,i.size,i.bytes))=some (some (.int .i64 0),1,8) by kernel_rfl);simp only[Prod.mk.injEq]at Uh;have n2:¬(281474976710656<8*(n:Int)):=by omega
 have Ya:¬n=0:=by omega
 simp[execOp,SS,hx,hy,aH9,run_underlying hu,typeInfo,sizeOf,zeroValue,hi,Uh.1,Uh.2.1,Uh.2.2,wl,n2,Ya,newRow,go_sem];rw[if_neg (by omega:¬(n:Int)<0),show Array.map (λx=>([Value.int .i64 0]:List Value)[x%1]?.getD default) (Array.range n)=ay3 n (.int .i64 0)from Array.ext s_ λi h1 h2=>by simp[Nat.mod_one]]
theorem Ks{L:List Value}(hv:cV w v L)(hL:L.length<=n)(h1:∀u∈L,u.oneCell'=true)(hg:w.heap[g]?=some (.cells cur 3))(hc:cur.size=n)(SS:o.op=.call {callee:=.builtin .copy,args:=#[.tmp k,.tmp j],argTypes:=#[24,24]})(hx:ev (.tmp k)=.sk g n q)(hy:ev (.tmp j)=v):
 ∃u w',(execOp ev o).run prog w=.ok (.value u) w'/\w'.heap[g]?=some (.cells (L++cur.toList.drop L.length).toArray 3)/\Ex (· =g) w w'/\w'.heap.size=w.heap.size:=by
 have hu:prog.underlying 24=some (.slice 3):=by kernel_rfl
 have e:execOp ev o=(do pure (.value (←aJ8 #[24,24] o.type #[.sk g n q,v]))):=by simp[execOp,SS,resolve,hx,hy,invoke,builtin]
 have hz:∀w:World,(sizeOf 3).run prog w=.ok 1 w:=λw=>by kernel_rfl
 obtain⟨p,cap,rfl,hp⟩:=hv;by_cases hL0:L=[]
 .subst hL0;refine⟨.int .i64 0,w,?_,by simpa using hg,Ex.refl,rfl⟩;rw[e];cases p<;>simp[aJ8,run_underlying hu,Builtin.lenOf,Builtin.firstCells,hz,loadCells,loadCellsFrom,storeCells,goInt]
 .have hl0:0<L.length:=List.length_pos_iff.2 hL0;obtain⟨ad,rfl,_⟩:=hp 0 L[0] (aw3 hl0);have T4:∀j u,L[j]?=some u->w.cell? (ad.add j)=some u:=λj u hj=>by
   obtain⟨q',e1,e2⟩:=hp j u hj;cases e1;exact e2
  have hmin:Nat.min L.length n=L.length:=aE9 hL;have hr:=run_copy_row (P:=prog) w 24 24 o.type 3 g 0 n q ad L.length cap cur 3 L hu k_ hg hmin.symm T4 o_ h1;rw[gD hg,List.take_zero,aN6,aw9]at hr;exact⟨_,_,by rw[e];exact kx hr,aZ hg,bC _ _ _,fm⟩
def kg(L:List Int)(i:Nat):Array Value:=(aO L++(Po i).toList).toArray
theorem tY(L:List Int)(hi:i<=4):(kg L i).size=L.length+4:=by simp[kg,Po,aO];omega
theorem FM(L:List Int)(hi:i<4):(kg L i).setIfInBounds (L.length+i) (.int .i64 77)=kg L (i+1):=by
 unfold kg;rw[←JB hi,List.setIfInBounds_toArray,List.set_append_right _ _ (by simp[aO])];simp[aO]
theorem vq(L:List Int)(hk:k<L.length)(i:Nat):(kg L i)[k]?=some (.int .i64 L[k]):=by
 unfold kg;rw[AS,If (by simpa[aO]using hk)];simp[aO,hk]
theorem Jx(L:List Int)(hk:L.length<=k)(h4:k<L.length+4):(kg L 4)[k]?=some (.int .i64 77):=by
 unfold kg;rw[AS,aA5 (by simpa[aO]using hk),aA9,show(aO L).length=L.length from by simp[aO]];exact MU o_
section
variable{L:List Int}{p:Option Addr}{cap:Nat}
theorem FL(hL:L.length<=17592186044000)(nt:∀a w,w.heap[g]?=some (.cells (kg L 4) 3)->Ex (· =g) w0 w->aB [(0,.slice p L.length cap),(3,.sk g (L.length+4) (L.length+4))] 26 [] a->Rn kX Goal ((base 45).atR a [.code (MZ f45)]) cs w):
 ∀(m i:Nat) (w:World) (a:Act),4- i=m->i<=4->w.heap[g]?=some (.cells (kg L i) 3)->Ex (· =g) w0 w->aB [(0,.slice p L.length cap),(3,.sk g (L.length+4) (L.length+4)),(4,.int .i64 i)] 26 [] a->Rn kX Goal ((base 45).atR a [.code (N7 f45),.inLoop (N7 f45),.inBlock 0,.code (MZ f45)]) cs w:=by
 intro m;induction m with
 |zero=>
  intro i w a hm hi hc hx J
  iterate 2 refine aF J λa J=>?_
  refine a9 rfl (ak _ (J.Q 13) ?_);rw[decide_eq_false o_];obtain rfl:i=4:=by omega
  exact a9 rfl (nt _ _ hc hx (J.only ⟨rfl,rfl,trivial⟩))
 |succ m ih=>
  intro i w a hm hi hc hx J
  iterate 2 refine aF J λa J=>?_
  refine a9 rfl (ak _ (J.Q 13) ?_);rw[decide_eq_true o_]
  iterate 4 refine aF J λa J=>?_
  refine ai J (λo ho=>aN (m:=L.length) (n:=i) ho (J.Q 18) (J.Q 19) o_) λa J=>?_;refine ai J (λo ho=>b_ (L.length+i) k_ ho (J.Q 16) (J.Q 20) o_) λa J=>?_;rw[aw9]at J;refine aP J (λo ho=>cI (v:=.int .i64 77) rfl rfl k_ ho (J.Q 21) rfl hc (by rw[tY L o_];omega)) λa J=>?_;rw[FM L o_];have c2:=aZ (cs:=kg L (i+1)) (t:=3) hc;have x2:=hx.trans (bC (w:=w) g (kg L (i+1)) 3) λ_ _ e=>e;refine aF J λa J=>?_;refine ai J (λo ho=>aN (n:=1) ho (J.Q 14) rfl o_) λa J=>?_;refine aF J λa J=>?_;exact a9 rfl (a9 rfl (ih (i+1) _ _ o_ o_ c2 x2 (J.only ⟨rfl,rfl,rfl,trivial⟩)))
theorem BE(hv:cV w (.slice p L.length cap) (aO L))(hL:L.length<=17592186044000):Cl kX 45 #[.slice p L.length cap] w λe w'=>e=.returned (.sk w.heap.size L.length (L.length+4))/\w'.heap[w.heap.size]?=some (.cells (kg L 4) 3)/\Bw w w':=by
 refine az (N:=26) func45 O6 λcs a J=>?_
 iterate 3 refine aF J λa J=>?_
 refine ai J (λo ho=>aN (m:=L.length) (n:=4) ho (J.get (d:=6) rfl) rfl o_) λa J=>?_;refine bA J (λo ho=>JF o_ o_ ho (J.get (d:=7) rfl) (J.get (d:=7) rfl)) λw1 a b1 c1 z1 J=>?_
 iterate 3 refine aF J λa J=>?_
 have e0:(aO L++(ay3 (L.length+4) (Value.int .i64 0)).toList.drop (aO L).length).toArray=kg L 0:=by
  unfold kg
  congr 2
  simp[aO,Po]
 refine dX (R:=λ_ w2=>w2.heap[w.heap.size]?=some (.cells (kg L 0) 3)/\Ex (· =w.heap.size) w1 w2/\w2.heap.size=w1.heap.size) J (λo ho e=>by
  obtain⟨u,w',q1,q2,q3,q4⟩:=Ks (w:={w1 with drawn:=e}) (hv.below ⟨b1.os,b1.tape,b1.output,b1.size,b1.block⟩) (by simp[aO]) (j5 L) c1 s_ ho (J.get (d:=9) rfl) (J.get (d:=10) rfl);rw[e0]at q2;exact⟨u,w',q1,q2,⟨q3.os,q3.output,q3.tape,q3.size,q3.block⟩,q4⟩) λv w2 ⟨c2,x2,z2⟩ a J=>?_
 refine aF J λa J=>?_;refine a9 rfl (a9 rfl (a9 rfl (FL (w0:=w2) hL (λa w3 c3 x3 J=>?_) 4 0 w2 _ rfl o_ c2 Ex.refl (J.only ⟨rfl,rfl,rfl,trivial⟩))))
 iterate 3 refine aF J λa J=>?_
 refine ai J (λo ho=>qK (e:=3) ho (J.get (d:=22) rfl) (J.get (d:=24) rfl) k_ k_ o_) λa J=>?_;refine aF J λa J=>?_;have X:Ex (λ_=>False) w w3:=((an b1).trans x2 λb hb e=>by omega).trans x3 λb hb e=>by omega
 exact aH J ⟨rfl,c3,X.os,X.tape,X.output,X.size,λb hb=>X.block b hb λe=>e⟩
theorem Dk(hL:L.length<=17592186044000)(hv:cV w0 (.slice p L.length cap) (aO L))(hc:w0.heap[g]?=some (.cells (kg L 4) 3))(nt:∀a w,Bw w0 w->aB [] 46 [] a->Rn kX Goal ((base 48).atR a [.code (JJ f48)]) cs w):
 ∀(m i:Nat) (w:World) (a:Act),L.length+4- i=m->i<=L.length+4->Bw w0 w->aB [(1,.slice p L.length cap),(5,.sk g (L.length+4) (L.length+4)),(6,.int .i64 i)] 46 [] a->Rn kX Goal ((base 48).atR a [.code (JM f48),.inLoop (JM f48),.inBlock 0,.code (JJ f48)]) cs w:=by
 intro m;induction m with
 |zero=>
  intro i w a hm hi hb J
  iterate 4 refine aF J λa J=>?_
  refine a9 rfl (ak _ (J.Q 15) ?_);rw[decide_eq_false o_];exact a9 rfl (nt _ _ hb (J.only trivial))
 |succ m ih=>
  intro i w a hm hi hb J
  iterate 4 refine aF J λa J=>?_
  refine a9 rfl (ak _ (J.Q 15) ?_);rw[decide_eq_true o_];have J:aB [(1,.slice p L.length cap),(5,.sk g (L.length+4) (L.length+4)),(6,.int .i64 i)] 46 [] a:=J.only ⟨rfl,rfl,rfl,trivial⟩
  iterate 4 refine a9 rfl ?_
  have VG:=bk hb hc;have next:∀(a:Act) (w1:World) (F:List (Nat×Value)),F.lookup 45=some (.bool false)->xZ [(1,.slice p L.length cap),(5,.sk g (L.length+4) (L.length+4)),(6,.int .i64 i)] F->aB F 46 [] a->Bw w w1->Rn kX Goal ((base 48).atR a [.code (.cond (.tmp 45) (.seq (rG f48 6) .ret) .skip),.inBlock 1,.code (rG f48 4),.inLoop (JM f48),.inBlock 0,.code (JJ f48)]) cs w1:=λa w1 F h45 U6 J b1=>by
   refine ak _ (J.get (d:=45) h45) ?_;have J:=J.only U6;refine aF J λa J=>?_;refine ai J (λo ho=>aN (n:=1) ho (J.Q 16) rfl o_) λa J=>?_;refine aF J λa J=>?_;exact a9 rfl (a9 rfl (ih (i+1) _ _ o_ o_ (ae hb hb.size b1) (J.only ⟨rfl,rfl,rfl,trivial⟩)))
  refine cC J ?_;by_cases UF:i<L.length
  .obtain⟨q0,c0,e0,hp⟩:=hv.below hb;injection e0 with e1 _ e2;subst e1 e2;obtain⟨ad,rfl,UH⟩:=hp i (.int .i64 L[i]) (by simp[aO,UF])
   iterate 4 refine cQ ?_
   rw[decide_eq_true (by omega:((i:Nat):Int)<((L.length:Nat):Int))]
   iterate 3 refine cQ ?_
   refine aj ?_ (y:=λo a w ho z=>b_ i k_ ho gx gx o_);refine aj ?_ (v:=.int .i64 L[i]) (y:=λo a w ho z=>(av aC ho gx ((ar (bk z.b VG) _).trans (by rw[aw9];exact vq L UF 4))).1)
   iterate 2 refine cQ ?_
   refine aj ?_ (v:=.pointer (some (ad.add i))) (y:=λo a w ho z=>(bR (e:=3) k_ (λw=>by kernel_rfl) ho gx gx UF).1);refine aj ?_ (v:=.int .i64 L[i]) (y:=λo a w ho z=>(av aC ho gx (aU z.b UH)).1);refine aj ?_ (v:=.bool false) (y:=λo a w ho z=>by rw[mD (m:=L[i]) (n:=L[i]) ho gx gx];simp);refine aj ?_ (v:=.bool false) (y:=λo a w ho z=>fN ho gx gx)
   iterate 4 refine cQ ?_
   refine aj ?_ (v:=.bool false) (y:=λo a w ho z=>by rw[l0 ho gx gx,decide_eq_false o_]);refine cQ ?_
   iterate 5 refine kP ?_
   refine aj ?_ (v:=.bool false) (y:=λo a w ho z=>gk ho gx rfl);refine aj ?_ (v:=.bool false) (y:=λo a w ho z=>gk ho gx gx);exact cc λa w1 J b1 _=>next a w1 _ rfl ⟨rfl,rfl,rfl,trivial⟩ J b1
  .iterate 4 refine cQ ?_
   rw[decide_eq_false (by omega:¬((i:Nat):Int)<((L.length:Nat):Int))];refine cQ ?_
   iterate 9 refine kP ?_
   refine aj ?_ (v:=.bool false) (y:=λo a w ho z=>gk ho gx rfl)
   iterate 5 refine cQ ?_
   rw[decide_eq_true (by omega:((i:Nat):Int)≥((L.length:Nat):Int))]
   iterate 3 refine cQ ?_
   refine aj ?_ (y:=λo a w ho z=>b_ i k_ ho gx gx o_);refine aj ?_ (y:=λo a w ho z=>(av aC ho gx ((ar (bk z.b VG) _).trans (by rw[aw9];exact Jx L o_ o_))).1);refine aj ?_ (y:=λo a w ho z=>mD (m:=77) (n:=77) ho gx rfl);refine aj ?_ (v:=.bool false) (y:=λo a w ho z=>fN ho gx gx);refine aj ?_ (v:=.bool false) (y:=λo a w ho z=>gk ho gx gx);exact cc λa w1 J b1 _=>next a w1 _ rfl ⟨rfl,rfl,rfl,trivial⟩ J b1
theorem xx(hL:L.length<=17592186044000)(hv:cV w (.slice p L.length cap) (aO L))(hc:w.heap[g]?=some (.cells (kg L 4) 3)):Cl kX 48 #[.sk g L.length (L.length+4),.slice p L.length cap] w λe w'=>e=.returned (.bool true)/\Bw w w':=by
 refine az (N:=46) func48 Od λcs a J=>?_
 iterate 4 refine aF J λa J=>?_
 refine ai J (λo ho=>aN (m:=L.length) (n:=4) ho (J.Q 9) rfl o_) λa J=>?_;refine ai J (λo ho=>qK (e:=3) ho (J.Q 7) (J.Q 10) k_ k_ (aw0 _)) λa J=>?_
 iterate 2 refine aF J λa J=>?_
 refine a9 rfl (a9 rfl (a9 rfl (Dk hL hv hc (λa w2 b2 J=>?_) (L.length+4) 0 w _ o_ o_ (aw8 _ _) (J.only ⟨rfl,rfl,rfl,trivial⟩))));refine aF J λa J=>?_;exact aH J ⟨rfl,b2⟩
end

def jS(ns:List Int):List Int->List Int->Nat->List Int×Nat
 |K,[],i=>(nts K ns,i+1)
 |K,g::G,i=>if (ns.length:Int)<=g then(nts K ns,i+1)else jS ns (nts K (ns.take g.toNat)) G (i+1)
theorem wS{K G:List Int}(h:G.length<=i):jS ns K (G.drop i) i=(nts K ns,i+1):=by rw[aC6 h];rfl
theorem tQ{K G:List Int}(h:i<G.length)(hg:(ns.length:Int)<=G[i]):jS ns K (G.drop i) i=(nts K ns,i+1):=by
 rw[aE_ h];simp[jS,hg]
theorem wT{K G:List Int}(h:i<G.length)(hg:G[i]<(ns.length:Int)):jS ns K (G.drop i) i=jS ns (nts K (ns.take G[i].toNat)) (G.drop (i+1)) (i+1):=by
 rw[aE_ h];simp[jS,Int.not_le.2 hg]
theorem KY(a:Addr)(n:Nat):(a.add n).block=a.block:=by unfold aF6;split<;>rfl
theorem cV.ex{L:List Value}(h:cV w v L)(hx:Ex X w w')(hn:∀a n c,v=.slice (some a) n c->L≠[]->¬X a.block):cV w' v L:=by
 obtain⟨p,cap,rfl,hp⟩:=h;refine⟨p,cap,rfl,λi u hi=>?_⟩;obtain⟨a,rfl,hc⟩:=hp i u hi;refine⟨a,rfl,?_⟩;have T2:L≠[]:=λe=>by rw[e]at hi;simp at hi
 have SX:(a.add i).block<w.heap.size:=by
  unfold ay_ at hc;split at hc
  .exact(av9.1 ‹_›).1
  .cases hc
 unfold ay_ at hc⊢;rw[hx.block _ SX (by rw[KY];exact hn a _ _ rfl T2)];exact hc
def Nb(f:Func):Code:=.seq (rG f 3) (.seq (.cond (.tmp 16) .skip (.exit 0)) (.seq (.block 1 (.seq (rG f 4) (.seq (rG f 5) (.seq (rG f 6) (.seq (rG f 7) (.cond (.tmp 26) (.seq (rG f 8) (.seq (rG f 9) .ret)) .skip)))))) (rG f 10)))
def N0(f:Func):Code:=.seq (rG f 11) (.seq (rG f 12) (.seq (rG f 13) (.seq (rG f 14) .ret)))
theorem Ot:f76.body=some (.seq (rG f76 0) (.seq (rG f76 1) (.seq (.seq (rG f76 2) (.block 0 (.loop (Nb f76)))) (N0 f76)))):=by kernel_rfl
def Sk(T:List Int×Nat)(j:Bool)(s n c:Int)(W:List Int)(L:ByteArray)(fl:Value)(cb:Nat)(w:World)(v:Value)(w':World):Prop:=v=.agg (bo T.2 j s n c)/\i8 w' cb fl W T.1 j s/\j7 w' fl L/\Ex (· =cb) w w'
section
variable{fl:Value}{W K G:List Int}{j:Bool}{s n:Int}{on:Bool}{p:Option Addr}{T:List Int×Nat}
abbrev SF(T:List Int×Nat)(j:Bool)(s n c:Int)(W:List Int)(L:ByteArray)(fl:Value)(cb:Nat)(w:World)(cs:List Frame)(g:Goroutine)(w':World):Prop:=∃(a:Act) (k:List Item) (bk:Nat) (cells:Array Value) (tt:TypeId),g=dj {(base 76).atR a k with mode:=.returning} cs/\a.defers=[]/\a.tmps[4]?=some (.pk bk 0)/\w'.heap[bk]?=some (.cells cells tt)/\cells.size=5/\∃v,aB2 (.agg cells)=.returned v/\Sk T j s n c W L fl cb w v w'
structure SE (w:World) (cb:Nat) (fl:Value) (W K:List Int) (L:ByteArray) (KS:List Int) (w4:World):Prop where
 ch:i8 w4 cb fl W K false 0
 fls:j7 w4 fl L
 tab:w4.rangeAt 0 0 (aI KS)
 out:w4.heap[w.heap.size]?=some (.cells (bo 0 false 0 0 0) 100)
 ex:Ex (· =cb) w w4
 lt:w.heap.size<w4.heap.size
theorem Av(VD:kN)(SY:KS.length=64)(hQ:eU KS W L ns j s n c)(hW:dL W)(hcb:cb<w.heap.size)(h0:cb≠0)(hG:G.length<=17592186044000){w2:World}(H:SE w cb fl W K L KS w2)(hT:(nts K ns,G.length+1)=T)(J:aB [(0,.pk cb 0),(1,.slice p G.length q),(4,.pk w.heap.size 0)] 40 [] a):
 Rn kX (SF T j s n c W L fl cb w cs) ((base 76).atR a [.code (N0 f76)]) cs w2:=by
 subst hT;have hn4:=oF hQ;obtain⟨h2,f2,VZ,c2,X2,z2⟩:=H;refine ao J λa J=>?_;refine ai J (λo ho=>Fc (room:=9223372036854775807) ho (J.Q 32) rfl) λa J=>?_;refine bA J (λo ho=>FQ ho) λw3 a b3 c3 z3 J=>?_;refine aP J (λo ho=>Lc ho (J.Q 9) (J.Q 33) c3 rfl) λa J=>?_;have x4:=bC (w:=w3) w2.heap.size (kz cb 9223372036854775807 false) 151;have h3:=h2.ex (an (X:=λ_=>False) b3) (λe=>e);have f3:=f2.keep (an (X:=λ_=>False) b3) (λ_ _ _ _ e=>e);have Y7:=cW (an (X:=λ_=>False) b3) (λe=>e) o_ VZ;have h4:=h3.ex x4 o_;have f4:=f3.keep x4 λb cs fr hb=>gF c3 d_ b cs fr hb;have Y6:=cW x4 o_ o_ Y7;have r4:=aZ (w:=w3) (cs:=kz cb 9223372036854775807 false) (t:=151) c3;have c4:=x4.at o_ (bk b3 c2);have X4:Ex (· =cb) w (put w3 w2.heap.size (kz cb 9223372036854775807 false) 151):=(X2.trans (an (X:=λ_=>False) b3) λ_ _ e=>e.elim).trans x4 λb hb e=>by omega
 have s4:=fm (w:=w3) (b:=w2.heap.size) (cs:=kz cb 9223372036854775807 false) (t:=151);revert h4 f4 Y6 r4 c4 X4 s4;generalize put w3 w2.heap.size (kz cb 9223372036854775807 false) 151=w4;intro h4 f4 Y6 r4 c4 X4 s4;refine bp J func100 (QG VD SY hQ h4 hW r4 o_ f4 (by rintro(e|e)<;>omega) Y6) λv w5 hv a J=>?_;obtain⟨⟨rfl,_,h5,f5,_⟩|⟨_,WS,_⟩,x5⟩:=hv
 .have c5:=x5.at (by rintro(e|e)<;>omega) c4;have hl5:=h5.lt;have z5:=x5.size;have X5:Ex (· =cb) w w5:=X4.trans x5 λb hb e=>by rcases e with e|e<;>omega
  refine bA J (λo ho=>i2 ho) λw6 a b6 c6 z6 J=>?_;refine aP J (λo ho=>dM ho (J.Q 10) (J.Q 34) c6 rfl) λa J=>?_;have x7:=bC (w:=w6) w5.heap.size (bo 0 j s n c) 100;have c7:=x7.at o_ (bk b6 c5);have o7:=aZ (w:=w6) (cs:=bo 0 j s n c) (t:=100) c6;have h7:=(h5.ex (an (X:=λ_=>False) b6) (λe=>e)).ex x7 o_;have f7:=(f5.keep (an (X:=λ_=>False) b6) (λ_ _ _ _ e=>e)).keep x7 λb cs fr hb=>gF c6 d_ b cs fr hb;have X7:Ex (· =cb) w (put w6 w5.heap.size (bo 0 j s n c) 100):=(X5.trans (an (X:=λ_=>False) b6) λ_ _ e=>e.elim).trans x7 λb hb e=>by omega
  revert c7 o7 h7 f7 X7;generalize put w6 w5.heap.size (bo 0 j s n c) 100=w7;intro c7 o7 h7 f7 X7;refine ao J λa J=>?_;refine ai J (λo ho=>ix ho (J.Q 35)) λa J=>?_;refine ai J (λo ho=>aN (m:=G.length) (n:=1) ho (J.Q 36) rfl o_) λa J=>?_;refine ao J λa J=>?_;refine aP J (λo ho=>cI (v:=.int .i64 (G.length+1:Nat)) rfl rfl k_ ho (J.Q 38) (J.Q 37) o7 (by decide:0<5)) λa J=>?_;rw[show(bo 0 j s n c).setIfInBounds 0 (.int .i64 (G.length+1:Nat))=bo (G.length+1:Nat) j s n c from rfl];have x8:=bC (w:=w7) w5.heap.size (bo (G.length+1:Nat) j s n c) 100;have c8:=x8.at o_ c7;have o8:=aZ (w:=w7) (cs:=bo (G.length+1:Nat) j s n c) (t:=100) o7;refine ai J (λo ho=>kY ho (J.Q 10) o8) λa J=>?_;refine aP J (λo ho=>dM ho (J.Q 4) (J.Q 39) c8 rfl) λa J=>?_;have x9:=bC (w:=put w7 w5.heap.size (bo (G.length+1:Nat) j s n c) 100) w.heap.size (bo (G.length+1:Nat) j s n c) 100;exact dn 6 _ (aS rfl (.inr ⟨_,rfl⟩) (bj ⟨_,_,w.heap.size,_,_,rfl,J.defers,J.slot 4 _ rfl,aZ c8,rfl,_,rfl,rfl,(h7.ex x8 o_).ex x9 o_,(f7.keep x8 λb cs fr hb=>gF o7 d_ b cs fr hb).keep x9 λb cs fr hb=>gF c8 d_ b cs fr hb,(X7.trans x8 λb hb e=>by omega).trans x9 λb hb e=>by omega⟩))
 .omega
theorem Aw(VD:kN)(SY:KS.length=64)(hQ:eU KS W L ns j s n c)(hW:dL W)(hcb:cb<w.heap.size)(h0:cb≠0)(hG:G.length<=17592186044000)(WB:∀x∈G,x<9223372036854775808)(hv:cV w (.slice p G.length q) (aO G))(hp:∀a:Addr,p=some a->G≠[]->a.block≠cb):
 ∀(m i:Nat) (K:List Int) (w2:World) (a:Act),G.length- i=m->i<=G.length->jS ns K (G.drop i) i=T->SE w cb fl W K L KS w2->aB [(0,.pk cb 0),(1,.slice p G.length q),(4,.pk w.heap.size 0),(13,.slice p G.length q),(14,.int .i64 G.length),(15,.int .i64 i)] 40 [] a->
 Rn kX (SF T j s n c W L fl cb w cs) ((base 76).atR a [.code (Nb f76),.inLoop (Nb f76),.inBlock 0,.code (N0 f76)]) cs w2:=by
 intro m;induction m with
 |zero=>
  intro i K w2 a hm hi hT H J;obtain rfl:i=G.length:=by omega
  refine ao J λa J=>?_;refine a9 rfl (a9 rfl (ak _ (J.Q 16) ?_));rw[decide_eq_false o_];rw[wS (aw0 _)]at hT;exact a9 rfl (Av VD SY hQ hW hcb h0 hG H hT (J.only ⟨rfl,rfl,rfl,trivial⟩))
 |succ m ih=>
  intro i K w2 a hm hi hT H J;have Tj:i<G.length:=by omega
  have Vi:=WB G[i] (aH0 Tj);obtain⟨q0,c0,e0,T4⟩:=cV.ex hv H.ex λa n c e T2=>by
   injection e with e1;exact hp a e1 λe=>T2 (by rw[e];rfl)
  injection e0 with e1 _ e2;subst e1 e2;obtain⟨ad,rfl,UH⟩:=T4 i (.int .i64 G[i]) (by simp[aO,Tj]);obtain⟨h2,f2,VZ,c2,X2,z2⟩:=H;refine ao J λa J=>?_;refine a9 rfl (a9 rfl (ak _ (J.Q 16) ?_));rw[decide_eq_true o_];refine ao J λa J=>?_;refine ai J (λo ho=>(bR (e:=3) k_ (λw=>by kernel_rfl) ho (J.Q 13) (J.Q 15) Tj).1) λa J=>?_;refine ai J (λo ho=>(av aC ho (J.Q 18) UH).1) λa J=>?_
  iterate 4 refine ao J λa J=>?_
  refine ai J (λo ho=>Fc ho (J.Q 20) (J.Q 21)) λa J=>?_;refine bA J (λo ho=>FQ ho) λw3 a b3 c3 z3 J=>?_;refine aP J (λo ho=>Lc ho (J.Q 7) (J.Q 22) c3 rfl) λa J=>?_;have x4:=bC (w:=w3) w2.heap.size (kz cb G[i] false) 151;have h3:=h2.ex (an (X:=λ_=>False) b3) (λe=>e);have f3:=f2.keep (an (X:=λ_=>False) b3) (λ_ _ _ _ e=>e);have Y7:=cW (an (X:=λ_=>False) b3) (λe=>e) o_ VZ;have h4:=h3.ex x4 o_;have f4:=f3.keep x4 λb cs fr hb=>gF c3 d_ b cs fr hb;have Y6:=cW x4 o_ o_ Y7;have r4:=aZ (w:=w3) (cs:=kz cb G[i] false) (t:=151) c3;have c4:=x4.at o_ (bk b3 c2);have X4:Ex (· =cb) w (put w3 w2.heap.size (kz cb G[i] false) 151):=(X2.trans (an (X:=λ_=>False) b3) λ_ _ e=>e.elim).trans x4 λb hb e=>by omega
  have s4:=fm (w:=w3) (b:=w2.heap.size) (cs:=kz cb G[i] false) (t:=151);revert h4 f4 Y6 r4 c4 X4 s4;generalize put w3 w2.heap.size (kz cb G[i] false) 151=w4;intro h4 f4 Y6 r4 c4 X4 s4;refine bp J func100 (QG VD SY hQ h4 hW r4 Vi f4 (by rintro(e|e)<;>omega) Y6) λv w5 hv5 a J=>?_;obtain⟨hv5,x5⟩:=hv5;have z5:=x5.size;have c5:=x5.at (by rintro(e|e)<;>omega) c4;have X5:Ex (· =cb) w w5:=X4.trans x5 λb hb e=>by rcases e with e|e<;>omega
  have hK5:=cW x5 (by rintro(e|e)<;>omega) o_ Y6;rcases hv5 with⟨rfl,hle,h5,f5,U0,r5⟩|⟨rfl,SX,h5,f5,U0,r5⟩
  .rw[tQ Tj hle]at hT;subst hT;refine bA J (λo ho=>i2 ho) λw6 a b6 c6 z6 J=>?_;refine aP J (λo ho=>dM ho (J.Q 8) (J.Q 23) c6 rfl) λa J=>?_;have x7:=bC (w:=w6) w5.heap.size (bo 0 j s n c) 100;have c7:=x7.at o_ (bk b6 c5);have r7:=x7.at o_ (bk b6 r5);have o7:=aZ (w:=w6) (cs:=bo 0 j s n c) (t:=100) c6;have h7:=(h5.ex (an (X:=λ_=>False) b6) (λe=>e)).ex x7 o_;have f7:=(f5.keep (an (X:=λ_=>False) b6) (λ_ _ _ _ e=>e)).keep x7 λb cs fr hb=>gF c6 d_ b cs fr hb;have X7:Ex (· =cb) w (put w6 w5.heap.size (bo 0 j s n c) 100):=(X5.trans (an (X:=λ_=>False) b6) λ_ _ e=>e.elim).trans x7 λb hb e=>by omega
   revert c7 o7 h7 f7 X7 r7;generalize put w6 w5.heap.size (bo 0 j s n c) 100=w7;intro c7 r7 o7 h7 f7 X7
   iterate 3 refine ao J λa J=>?_
   refine a9 rfl (ak _ (J.Q 26) ?_);refine ao J λa J=>?_;refine ai J (λo ho=>aN (m:=i) (n:=1) ho (J.Q 27) rfl o_) λa J=>?_;refine ao J λa J=>?_;refine aP J (λo ho=>cI (v:=.int .i64 (i+1:Nat)) rfl rfl k_ ho (J.Q 29) (J.Q 28) o7 (by decide:0<5)) λa J=>?_;rw[show(bo 0 j s n c).setIfInBounds 0 (.int .i64 (i+1:Nat))=bo (i+1:Nat) j s n c from rfl];have x8:=bC (w:=w7) w5.heap.size (bo (i+1:Nat) j s n c) 100;have c8:=x8.at o_ c7;have o8:=aZ (w:=w7) (cs:=bo (i+1:Nat) j s n c) (t:=100) o7;refine ai J (λo ho=>kY ho (J.Q 8) o8) λa J=>?_;refine aP J (λo ho=>dM ho (J.Q 4) (J.Q 30) c8 rfl) λa J=>?_;have hl5:=h5.lt;have x9:=bC (w:=put w7 w5.heap.size (bo (i+1:Nat) j s n c) 100) w.heap.size (bo (i+1:Nat) j s n c) 100;exact dn 6 _ (aS rfl (.inr ⟨_,rfl⟩) (bj ⟨_,_,w.heap.size,_,_,rfl,J.defers,J.slot 4 _ rfl,aZ c8,rfl,_,rfl,rfl,(h7.ex x8 o_).ex x9 o_,(f7.keep x8 λb cs fr hb=>gF o7 d_ b cs fr hb).keep x9 λb cs fr hb=>gF c8 d_ b cs fr hb,(X7.trans x8 λb hb e=>by omega).trans x9 λb hb e=>by omega⟩))
  .rw[wT Tj SX]at hT;refine bA J (λo ho=>i2 ho) λw6 a b6 c6 z6 J=>?_;refine aP J (λo ho=>dM ho (J.Q 8) (J.Q 23) c6 rfl) λa J=>?_;have x7:=bC (w:=w6) w5.heap.size (bo 0 false 0 0 0) 100;have c7:=x7.at o_ (bk b6 c5);have r7:=x7.at o_ (bk b6 r5);have h7:=(h5.ex (an (X:=λ_=>False) b6) (λe=>e)).ex x7 (by have:=h5.lt;omega);have f7:=(f5.keep (an (X:=λ_=>False) b6) (λ_ _ _ _ e=>e)).keep x7 λb cs fr hb=>gF c6 d_ b cs fr hb;have hK7:=cW x7 o_ o_ (cW (an (X:=λ_=>False) b6) (λe=>e) o_ hK5);have X7:Ex (· =cb) w (put w6 w5.heap.size (bo 0 false 0 0 0) 100):=(X5.trans (an (X:=λ_=>False) b6) λ_ _ e=>e.elim).trans x7 λb hb e=>by omega
   have s7:=fm (w:=w6) (b:=w5.heap.size) (cs:=bo 0 false 0 0 0) (t:=100);revert c7 h7 f7 X7 r7 hK7 s7;generalize put w6 w5.heap.size (bo 0 false 0 0 0) 100=w7;intro c7 r7 h7 f7 hK7 X7 s7
   iterate 3 refine ao J λa J=>?_
   refine a9 rfl (ak _ (J.Q 26) ?_);refine ai J (λo ho=>aN (m:=i) (n:=1) ho (J.Q 15) rfl o_) λa J=>?_;refine ao J λa J=>?_;exact a9 rfl (a9 rfl (ih (i+1) _ w7 _ o_ o_ hT ⟨h7,f7,hK7,c7,X7,by omega⟩ (J.only ⟨rfl,rfl,rfl,rfl,rfl,rfl,trivial⟩)))
theorem QO(VD:kN)(SY:KS.length=64)(hQ:eU KS W L ns j s n c)(h:i8 w cb fl W K on sl)(hW:dL W)(hf:j7 w fl L)(h0:cb≠0)(hK:w.rangeAt 0 0 (aI KS))(hG:G.length<=17592186044000)(WB:∀x∈G,x<9223372036854775808)(hv:cV w (.slice p G.length q) (aO G))(hp:∀a:Addr,p=some a->G≠[]->a.block≠cb):
 Cl kX 76 #[.pk cb 0,.slice p G.length q] w λe w'=>∃v,e=.returned v/\Sk (jS ns K G 0) j s n c W L fl cb w v w':=by
 refine cJ (t:=4) (ty:=100) (n:=5) func76 rfl (by exact underlying100) rfl iY λcs=>?_;refine bv (N:=40) func76 Ot λa J=>?_;have hl:=h.lt;refine bA J (λo ho=>i2 ho) λw1 a b1 c1 z1 J=>?_;have h1:=h.ex (an (X:=λ_=>False) b1) (λe=>e);have f1:=hf.keep (an (X:=λ_=>False) b1) (λ_ _ _ _ e=>e);have Yr:=cW (an (X:=λ_=>False) b1) (λe=>e) o_ hK;refine ao J λa J=>?_;refine bz J func99 (uG h1) λw2 ⟨h2,x2,z2⟩ a J=>?_;have c2:=x2.at o_ c1;have f2:=f1.keep x2 λb cs fr hb=>gF h1.2.2 d_ b cs fr hb;have VZ:=cW x2 o_ o_ Yr;refine ao J λa J=>?_;refine ai J (λo ho=>ix ho (J.Q 13)) λa J=>?_;refine ao J λa J=>?_;refine a9 rfl (a9 rfl (a9 rfl ?_));exact Aw VD SY hQ hW hl h0 hG WB hv hp G.length 0 K w2 _ o_ o_ rfl ⟨h2,f2,VZ,c2,(an b1).trans x2 λ_ _ e=>e,by omega⟩ (J.only ⟨rfl,rfl,rfl,rfl,rfl,rfl,trivial⟩)
theorem NN(VD:kN)(SY:KS.length=64)(hQ:eU KS W L ns j s n c)(h:i8 w cb fl W K on sl)(hW:dL W)(hf:j7 w fl L)(h0:cb≠0)(hK:w.rangeAt 0 0 (aI KS))(Z9:w.heap[lb]?=some (.cells #[.pk cb 0] 127))(hG:G.length<=17592186044000)(WB:∀x∈G,x<9223372036854775808)(hv:cV w (.slice p G.length q) (aO G))(hp:∀a:Addr,p=some a->G≠[]->a.block≠cb):
 Cl kX 49 #[.pk lb 0,.slice p G.length q] w λe w'=>∃v,e=.returned v/\Sk (jS ns K G 0) j s n c W L fl cb w v w':=by
 refine cJ (t:=4) (ty:=100) (n:=5) func49 rfl (by exact underlying100) rfl iY λcs=>?_;refine bv (N:=11) func49 Oc λa J=>?_;have hl:=h.lt;refine bA J (λo ho=>i2 ho) λw1 a b1 c1 z1 J=>?_;have h1:=h.ex (an (X:=λ_=>False) b1) (λe=>e);have f1:=hf.keep (an (X:=λ_=>False) b1) (λ_ _ _ _ e=>e);have Yr:=cW (an (X:=λ_=>False) b1) (λe=>e) o_ hK;have hlb1:=bk b1 Z9
 iterate 5 refine ao J λa J=>?_
 refine bp J func76 (QO VD SY hQ h1 hW f1 h0 Yr hG WB (hv.below b1) hp) λv w2 hv a J=>?_;obtain⟨rfl,h2,f2,x2⟩:=hv;have c2:=x2.at o_ c1;refine aP J (λo ho=>dM ho (J.Q 4) (J.Q 10) c2 rfl) λa J=>?_;have x3:=bC (w:=w2) w.heap.size (bo (jS ns K G 0).2 j s n c) 100;exact dn 6 _ (aS rfl (.inr ⟨_,rfl⟩) (bj ⟨_,_,w.heap.size,_,_,rfl,J.defers,J.slot 4 _ rfl,aZ c2,rfl,_,rfl,rfl,h2.ex x3 o_,f2.keep x3 λb cs fr hb=>gF c2 d_ b cs fr hb,((an b1).trans x2 λ_ _ e=>e).trans x3 λb hb e=>by omega⟩))
end

def JN(f:Func):Code:=.seq (.seq (rG f 4) (.cond (.tmp 29) .skip (.exit 0))) (.seq (.block 1 (.seq (rG f 6) (.seq (rG f 7) (.seq (.seq (rG f 8) (.cond (.tmp 41) (rG f 9) .skip)) (rG f 10))))) (rG f 5))
def JK(f:Func):Code:=.seq (rG f 11) (.seq (rG f 12) (.seq (.seq (rG f 13) (.cond (.tmp 55) (.seq (rG f 14) (rG f 15)) .skip)) (.seq (rG f 16) .ret)))
theorem On:f50.body=some (.seq (rG f50 0) (.seq (rG f50 1) (.seq (rG f50 2) (.seq (.seq (rG f50 3) (.block 0 (.loop (JN f50)))) (JK f50))))):=by kernel_rfl
theorem KJ:f23.body=some (.seq (rG f23 0) (.seq (rG f23 1) (.seq (rG f23 2) (.seq (rG f23 3) (.seq (rG f23 4) (.seq (rG f23 5) .ret)))))):=by kernel_rfl

theorem Ck{W:List Int}{j:Bool}{s n:Int}(h:eU KS W L ns j s n c):1<=ns.length:=by
 obtain⟨st,le,cr,us,hs,_,h⟩:=h;rcases h with⟨_,rfl,_⟩|⟨_,_,_,rfl,_⟩|⟨_,_,n0,c0,_,⟨_,rfl,_⟩|⟨_,n1,c1,_,⟨_,rfl,_⟩|⟨_,rfl,_⟩⟩⟩<;>simp
def L2(w:World)(g cap:Nat)(ns:List Int):Prop:=ns.length<=cap/\∃cur:Array Value,w.heap[g]?=some (.cells cur 3)/\∀(i:Nat) x,ns[i]?=some x->cur[i]?=some (Value.int .i64 x)
theorem L2.isL{cap:Nat}(h:L2 w g cap ns):R0 w (.sk g ns.length cap) ns:=let ⟨_,cur,h1,h2⟩:=h;⟨_,cap,rfl,λi x hi=>⟨g,cur,rfl,h1,h2 i x hi⟩⟩
theorem L2.cut{cap:Nat}(h:L2 w g cap ns)(hk:k<=ns.length):R0 w (.sk g k cap) (ns.take k):=let ⟨_,cur,h1,h2⟩:=h;⟨_,cap,by rw[aC2,aE9 hk],λi x hi=>⟨g,cur,rfl,h1,h2 i x (by
 rw[aC8]at hi;split at hi
 .exact hi
 .cases hi)⟩⟩
theorem L2.keep{cap:Nat}(h:L2 w g cap ns)(hx:Ex X w w')(hn:¬X g):L2 w' g cap ns:=let ⟨h0,cur,h1,h2⟩:=h;⟨h0,cur,hx.at hn h1,h2⟩
theorem BG{base:Nat}(h:w.ownsRow base 3 1 v n (aO ns))(hp:1<=ns.length):∃g cap,v=.sk g ns.length cap/\base<=g/\L2 w g cap ns:=by
 have hl:ns.length=n:=by have:=h.1;simp[aO]at this;omega
 rcases h.2 with⟨rfl,rfl⟩|⟨g,cap,cur,rfl,hb,h2,hc,_,_,h3⟩
 .omega
 .refine⟨g,cap,by rw[hl],hb,by omega,cur,h2,λi x hx=>?_⟩;have hi:=(aw5.1 hx).1;have hu:(aO ns)[i]?=some (.int .i64 x):=by simp[aO,hx]
  rw[←h3,aC8,if_pos o_]at hu;simpa using hu
section
variable{rb:Nat}{c0 c1 fl:Value}{up:Bool}{W K G:List Int}{j:Bool}{s n:Int}{T:List Int×Nat}{ob cap:Nat}{p:Option Addr}
def SG(T:List Int×Nat)(j:Bool)(s n c:Int)(c0 c1 fl:Value)(wb qw kb qk rb:Nat)(sl:Int)(w:World)(v:Value)(w':World):Prop:=v=.agg (bo T.2 j s n c)/\w'.heap[rb]?=some (.cells (kR c0 c1 fl (.sk wb 85 qw) (.sk kb 16 qk) j (if j then s else sl)) 107)/\uy w' kb qk T.1/\Ex (λb=>b=rb\/b=kb) w w'
abbrev Rz(T:List Int×Nat)(j:Bool)(s n c:Int)(c0 c1 fl:Value)(wb qw kb qk rb:Nat)(sl:Int)(w:World)(cs:List Frame)(g:Goroutine)(w':World):Prop:=∃(a:Act) (k:List Item) (bk:Nat) (cells:Array Value) (tt:TypeId),g=dj {(base 50).atR a k with mode:=.returning} cs/\a.defers=[]/\a.tmps[4]?=some (.pk bk 0)/\w'.heap[bk]?=some (.cells cells tt)/\cells.size=5/\∃v,aB2 (.agg cells)=.returned v/\SG T j s n c c0 c1 fl wb qw kb qk rb sl w v w'
structure QZ (w:World) (rb wb qw kb qk:Nat) (c0 c1 fl:Value) (sl:Int) (K ns:List Int) (j:Bool) (s n c:Int) (ob gb cap i:Nat) (w5:World):Prop where
 out:w5.heap[ob]?=some (.cells (bo i j s n c) 100)
 res:w5.heap[w.heap.size]?=some (.cells (bo 0 false 0 0 0) 100)
 ref:w5.heap[rb]?=some (.cells (kR c0 c1 fl (.sk wb 85 qw) (.sk kb 16 qk) false sl) 107)
 nts:L2 w5 gb cap ns
 kp:uy w5 kb qk K
 ex:Ex (λb=>b=rb\/b=kb) w w5
 lt:w.heap.size<ob/\w.heap.size<gb/\gb≠ob
theorem sO(hQ:eU KS W L ns j s n c)(Yg:kb≠rb)(YJ:rb<w.heap.size)(Xd:kb<w.heap.size)(hi:i<=17592186044000){w5:World}(H:QZ w rb wb qw kb qk c0 c1 fl sl K ns j s n c ob gb cap i w5)(hT:(L1.nts K ns,i+1)=T)(J:aB [(0,.pk rb 0),(4,.pk w.heap.size 0),(5,.sk gb ns.length cap),(6,.pk ob 0)] 65 [] a):
 Rn kX (Rz T j s n c c0 c1 fl wb qw kb qk rb sl w cs) ((base 50).atR a [.code (JK f50)]) cs w5:=by
 subst hT;obtain⟨o5,p5,r5,l5,k5,X5,lt1,lt2,nog⟩:=H;refine aF J λa J=>?_;refine ai J (λo ho=>(av aC ho (J.Q 47) ((ar o5 0).trans rfl)).1) λa J=>?_;refine ai J (λo ho=>aN (m:=i) (n:=1) ho (J.Q 48) rfl o_) λa J=>?_;refine aF J λa J=>?_;refine aP J (λo ho=>cI (v:=.int .i64 (i+1:Nat)) rfl rfl k_ ho (J.Q 50) (J.Q 49) o5 (by decide:0<5)) λa J=>?_;rw[show(bo i j s n c).setIfInBounds 0 (.int .i64 (i+1:Nat))=bo (i+1:Nat) j s n c from rfl];have x6:=bC (w:=w5) ob (bo (i+1:Nat) j s n c) 100;have o6:=aZ (w:=w5) (cs:=bo (i+1:Nat) j s n c) (t:=100) o5;have r6:=x6.at o_ r5;have p6:=x6.at o_ p5;have l6:=l5.keep x6 nog;have k6:=k5.keep x6 o_;have X6:=X5.trans x6 λb hb e=>by omega
 revert o6 r6 p6 l6 k6 X6;generalize put w5 ob (bo (i+1:Nat) j s n c) 100=w6;intro o6 r6 p6 l6 k6 X6
 iterate 2 refine aF J λa J=>?_
 have hn4:=oF hQ;refine bz J func78 (tZ r6 k6 l6.isL o_) λw7 ⟨k7,x7⟩ a J=>?_;have o7:=x7.at o_ o6;have r7:=x7.at (aA3 Yg) r6;have p7:=x7.at o_ p6;have X7:=X6.trans x7 λb _ e=>.inr e;refine aF J λa J=>?_;refine ai J (λo ho=>(av iJ ho (J.Q 54) ((ar o7 1).trans rfl)).1) λa J=>?_;refine a9 rfl (ak _ (J.Q 55) ?_);have fin:∀{a:Act} {w8:World},w8.heap[ob]?=some (.cells (bo (i+1:Nat) j s n c) 100)->w8.heap[w.heap.size]?=some (.cells (bo 0 false 0 0 0) 100)->w8.heap[rb]?=some (.cells (kR c0 c1 fl (.sk wb 85 qw) (.sk kb 16 qk) j (if j then s else sl)) 107)->uy w8 kb qk (L1.nts K ns)->Ex (λb=>b=rb\/b=kb) w w8->aB [(4,.pk w.heap.size 0),(6,.pk ob 0)] 65 [] a->Rn kX (Rz (L1.nts K ns,i+1) j s n c c0 c1 fl wb qw kb qk rb sl w cs) ((base 50).atR a [.code (.seq (rG f50 16) .ret)]) cs w8:=λ{a w8} o8 p8 r8 k8 X8 J=>by
  refine ai J (λo ho=>kY ho (J.Q 6) o8) λa J=>?_;refine aP J (λo ho=>dM ho (J.Q 4) (J.Q 64) p8 rfl) λa J=>?_;have x9:=bC (w:=w8) w.heap.size (bo (i+1:Nat) j s n c) 100;exact dn 6 _ (aS rfl (.inr ⟨_,rfl⟩) (bj ⟨_,_,w.heap.size,_,_,rfl,J.defers,J.slot 4 _ rfl,aZ p8,rfl,_,rfl,rfl,x9.at o_ r8,k8.keep x9 o_,X8.trans x9 λb hb e=>by omega⟩))
 cases j with
 |false=>exact a9 rfl (fin o7 p7 r7 k7 X7 (J.only ⟨rfl,rfl,trivial⟩))
 |true=>
  iterate 3 refine aF J λa J=>?_
  refine aP J (λo ho=>cI (v:=.bool true) rfl rfl k_ ho (J.Q 58) rfl r7 (by decide:5<7)) λa J=>?_;rw[show(kR c0 c1 fl (.sk wb 85 qw) (.sk kb 16 qk) false sl).setIfInBounds 5 (.bool true)=kR c0 c1 fl (.sk wb 85 qw) (.sk kb 16 qk) true sl from rfl];have x8:=bC (w:=w7) rb (kR c0 c1 fl (.sk wb 85 qw) (.sk kb 16 qk) true sl) 107;have r8:=aZ (w:=w7) (cs:=kR c0 c1 fl (.sk wb 85 qw) (.sk kb 16 qk) true sl) (t:=107) r7;have o8:=x8.at o_ o7;have p8:=x8.at o_ p7;have k8:=k7.keep x8 Yg;have X8:=X7.trans x8 λb _ e=>.inl e;revert o8 r8 p8 k8 X8;generalize put w7 rb (kR c0 c1 fl (.sk wb 85 qw) (.sk kb 16 qk) true sl) 107=w8;intro r8 o8 p8 k8 X8
  iterate 2 refine aF J λa J=>?_
  refine ai J (λo ho=>(av aC ho (J.Q 60) ((ar o8 2).trans rfl)).1) λa J=>?_
  iterate 2 refine aF J λa J=>?_
  refine aP J (λo ho=>cI (v:=.int .i64 s) rfl rfl k_ ho (J.Q 63) (J.Q 61) r8 (by decide:6<7)) λa J=>?_;rw[show(kR c0 c1 fl (.sk wb 85 qw) (.sk kb 16 qk) true sl).setIfInBounds 6 (.int .i64 s)=kR c0 c1 fl (.sk wb 85 qw) (.sk kb 16 qk) true s from rfl];have x9:=bC (w:=w8) rb (kR c0 c1 fl (.sk wb 85 qw) (.sk kb 16 qk) true s) 107;exact a9 rfl (fin (x9.at o_ o8) (x9.at o_ p8) (aZ r8) (k8.keep x9 Yg) (X8.trans x9 λb _ e=>.inl e) (J.only ⟨rfl,rfl,trivial⟩))
theorem Au(hQ:eU KS W L ns j s n c)(Yg:kb≠rb)(YJ:rb<w.heap.size)(Xd:kb<w.heap.size)(hG:G.length<=17592186043904)(WB:∀x∈G,x<9223372036854775808)(hv:cV w (.slice p G.length q) (aO G))(hp:∀a:Addr,p=some a->G≠[]->a.block≠rb/\a.block≠kb):
 ∀(m i:Nat) (K:List Int) (w5:World) (a:Act),G.length- i=m->i<=G.length->jS ns K (G.drop i) i=T->QZ w rb wb qw kb qk c0 c1 fl sl K ns j s n c ob gb cap i w5->aB [(0,.pk rb 0),(1,.slice p G.length q),(4,.pk w.heap.size 0),(5,.sk gb ns.length cap),(6,.pk ob 0),(7,.int .i64 i)] 65 [] a->
 Rn kX (Rz T j s n c c0 c1 fl wb qw kb qk rb sl w cs) ((base 50).atR a [.code (JN f50),.inLoop (JN f50),.inBlock 0,.code (JK f50)]) cs w5:=by
 intro m;have hn4:=oF hQ;induction m with
 |zero=>
  intro i K w5 a hm hi hT H J;obtain rfl:i=G.length:=by omega
  iterate 3 refine aF J λa J=>?_
  refine ai J (λo ho=>(ii (m:=G.length) (n:=G.length) ho (J.Q 17) (J.Q 19)).1) λa J=>?_;rw[decide_eq_false o_]at J;refine aF J λa J=>?_
  iterate 7 refine bY J λa J=>?_
  refine ai (v:=.bool false) J (λo ho=>gk ho (J.Q 21) rfl) λa J=>?_;refine a9 rfl (ak _ (J.Q 29) ?_);rw[wS (aw0 _)]at hT;exact a9 rfl (sO hQ Yg YJ Xd o_ H hT (J.only ⟨rfl,rfl,rfl,rfl,trivial⟩))
 |succ m ih=>
  intro i K w5 a hm hi hT H J;have Tj:i<G.length:=by omega
  have Vi:=WB G[i] (aH0 Tj);obtain⟨q0,c9,e0,T4⟩:=cV.ex hv H.ex λa n c e T2=>by
   injection e with e1;have:=hp a e1 λe=>T2 (by rw[e];rfl);exact λe=>e.elim this.1 this.2
  injection e0 with e1 _ e2;subst e1 e2;obtain⟨ad,rfl,UH⟩:=T4 i (.int .i64 G[i]) (by simp[aO,Tj]);have hpb:=hp ad rfl λe=>by rw[e]at Tj;simp at Tj
  iterate 3 refine aF J λa J=>?_
  refine ai J (λo ho=>(ii (m:=i) (n:=G.length) ho (J.Q 17) (J.Q 19)).1) λa J=>?_;rw[decide_eq_true o_]at J
  iterate 3 refine aF J λa J=>?_
  refine ai J (λo ho=>(bR (e:=3) k_ (λw=>by kernel_rfl) ho (J.Q 22) (J.Q 23) Tj).1) λa J=>?_;refine ai J (λo ho=>(av aC ho (J.Q 24) UH).1) λa J=>?_
  iterate 2 refine aF J λa J=>?_
  refine ai J (λo ho=>(ii (m:=G[i]) (n:=ns.length) ho (J.Q 25) (J.Q 27)).1) λa J=>?_;refine ai J (λo ho=>fN ho (J.Q 21) (J.Q 28)) λa J=>?_;refine a9 rfl (ak _ (J.Q 29) ?_);by_cases SX:G[i]<(ns.length:Int)
  .rw[decide_eq_true SX];rw[wT Tj SX]at hT;obtain⟨o5,p5,r5,l5,k5,X5,lt1,lt2,nog⟩:=H;refine aF J λa J=>?_;refine ai J (λo ho=>(av aC ho (J.Q 32) ((ar o5 0).trans rfl)).1) λa J=>?_;refine ai J (λo ho=>aN (m:=i) (n:=1) ho (J.Q 33) rfl o_) λa J=>?_;refine aF J λa J=>?_;refine aP J (λo ho=>cI (v:=.int .i64 (i+1:Nat)) rfl rfl k_ ho (J.Q 35) (J.Q 34) o5 (by decide:0<5)) λa J=>?_;rw[show(bo i j s n c).setIfInBounds 0 (.int .i64 (i+1:Nat))=bo (i+1:Nat) j s n c from rfl];have x6:=bC (w:=w5) ob (bo (i+1:Nat) j s n c) 100;have o6:=aZ (w:=w5) (cs:=bo (i+1:Nat) j s n c) (t:=100) o5;have r6:=x6.at o_ r5;have p6:=x6.at o_ p5;have l6:=l5.keep x6 nog;have k6:=k5.keep x6 o_;have adlt:ad.block<w.heap.size:=by
    obtain⟨_,_,e0,hw⟩:=hv;injection e0 with e1;obtain⟨b,q1,q2⟩:=hw i (.int .i64 G[i]) (by simp[aO,Tj]);rw[←e1]at q1;cases q1;unfold ay_ at q2;rw[KY]at q2;split at q2
    .exact(av9.1 ‹_›).1
    .cases q2
   have hce6:(put w5 ob (bo (i+1:Nat) j s n c) 100).cell? (ad.add i)=some (.int .i64 G[i]):=by
    unfold ay_ at UH⊢;rw[bH (by rw[KY];omega)];exact UH
   have X6:=X5.trans x6 λb hb e=>by omega
   revert o6 r6 p6 l6 k6 X6 hce6;generalize put w5 ob (bo (i+1:Nat) j s n c) 100=w6;intro o6 r6 p6 l6 k6 hce6 X6
   iterate 2 refine aF J λa J=>?_
   refine ai J (λo ho=>(bR (e:=3) k_ (λw=>by kernel_rfl) ho (J.Q 36) (J.Q 37) Tj).1) λa J=>?_;refine ai J (λo ho=>(av aC ho (J.Q 38) hce6).1) λa J=>?_
   iterate 2 refine aF J λa J=>?_
   refine ai J (λo ho=>(ii (m:=G[i]) (n:=0) ho (J.Q 40) rfl).1) λa J=>?_;have last:∀{a:Act},aB [(8,.int .i64 (G[i].toNat:Nat)),(0,.pk rb 0),(1,.slice (some ad) G.length q),(4,.pk w.heap.size 0),(5,.sk gb ns.length cap),(6,.pk ob 0),(7,.int .i64 i)] 65 [] a->Rn kX (Rz T j s n c c0 c1 fl wb qw kb qk rb sl w cs) ((base 50).atR a [.code (rG f50 10),.inBlock 1,.code (rG f50 5),.inLoop (JN f50),.inBlock 0,.code (JK f50)]) cs w6:=λ{a} J=>by
    have hk:G[i].toNat<=ns.length:=by omega
    iterate 3 refine aF J λa J=>?_
    refine ai J (λo ho=>qK (e:=3) ho (J.Q 43) (J.Q 44) k_ k_ (az_ hk l6.1)) λa J=>?_;refine bz J func78 (tZ r6 k6 (l6.cut hk) (by rw[aC2];omega)) λw7 ⟨k7,x7⟩ a J=>?_;have o7:=x7.at o_ o6;have r7:=x7.at (aA3 Yg) r6;have p7:=x7.at o_ p6;have l7:=l6.keep x7 o_;have X7:=X6.trans x7 λb _ e=>.inr e;refine aF J λa J=>?_;refine ai J (λo ho=>aN (m:=i) (n:=1) ho (J.Q 30) rfl o_) λa J=>?_;refine aF J λa J=>?_;exact a9 rfl (a9 rfl (ih (i+1) _ w7 _ o_ o_ hT ⟨o7,p7,r7,l7,k7,X7,lt1,lt2,nog⟩ (J.only ⟨rfl,rfl,rfl,rfl,rfl,rfl,trivial⟩)))
   refine a9 rfl (ak _ (J.Q 41) ?_);by_cases YO:G[i]<0
   .rw[decide_eq_true YO];refine aF J λa J=>?_;exact a9 rfl (last (J.only ⟨by rw[show G[i].toNat=0 by omega];rfl,rfl,rfl,rfl,rfl,rfl,rfl,trivial⟩))
   .rw[decide_eq_false YO];exact a9 rfl (last (J.only ⟨by rw[Int.toNat_of_nonneg o_];rfl,rfl,rfl,rfl,rfl,rfl,rfl,trivial⟩))
  .rw[decide_eq_false SX];rw[tQ Tj o_]at hT;exact a9 rfl (sO hQ Yg YJ Xd o_ H hT (J.only ⟨rfl,rfl,rfl,rfl,trivial⟩))
theorem NM(SY:KS.length=64)(Te:iS KS)(hQ:eU KS W L ns j s n c)(hc:w.heap[rb]?=some (.cells (kR c0 c1 fl (.sk wb 85 qw) (.sk kb 16 qk) up sl) 107))(hC:jl KS #[c0,c1] w)(hf:j7 w fl L)(hW:dL W)(hr:w.rangeAt wb 0 (W.map (Value.int .i64)))(hK:uy w kb qk K)(hG:G.length<=17592186043904)(WB:∀x∈G,x<9223372036854775808)(hv:cV w (.slice p G.length q) (aO G))(hp:∀a:Addr,p=some a->G≠[]->a.block≠rb/\a.block≠kb):
 Cl kX 50 #[.pk rb 0,.slice p G.length q] w λe w'=>∃v,e=.returned v/\SG (jS ns K G 0) j s n c c0 c1 fl wb qw kb qk rb sl w v w':=by
 refine cJ (t:=4) (ty:=100) (n:=5) func50 rfl (by exact underlying100) rfl iY λcs=>?_;refine bv (N:=65) func50 On λa J=>?_;have YJ:=aA hc;have Xd:kb<w.heap.size:=let ⟨_,_,_,_,h,_⟩:=hK;aA h
 have Yg:kb≠rb:=λe=>by
  obtain⟨_,_,cs,fr,h,_⟩:=hK;rw[e,hc]at h;injection h with h;injection h with _ h;cases h
 refine bA J (λo ho=>i2 ho) λw1 a b1 c1' z1 J=>?_;refine aF J λa J=>?_;refine bp J func77 (yG SY Te (bk b1 hc) (hC.mono b1) (hf.keep (an (X:=λ_=>False) b1) (λ_ _ _ _ e=>e)) hW (λj v hv=>aU b1 (hr j v hv))) λv w2 XE a J=>?_;obtain⟨nv,ns',j',s',n',c',rfl,hQ',o2,b2⟩:=XE;obtain⟨rfl,rfl,rfl,rfl,rfl⟩:=Cn hQ hQ';have z2:=b2.size;obtain⟨gb,cap,rfl,Uy,l2⟩:=BG o2 (Ck hQ);have Zc:gb<w2.heap.size:=let ⟨_,_,h,_⟩:=l2;aA h
 iterate 3 refine aF J λa J=>?_
 refine bA J (λo ho=>i2 ho) λw3 a b3 c3 z3 J=>?_;have c3':=bk b3 (bk b2 c1');have l3:=l2.keep (an (X:=λ_=>False) b3) (λe=>e);refine aF J λa J=>?_;refine aP J (λo ho=>dM ho (J.Q 6) (J.Q 13) c3 rfl) λa J=>?_;have B3:Bw w w3:=ae (ae b1 b1.size b2) o_ b3;have x4:=bC (w:=w3) w2.heap.size (bo 0 j s n c) 100;have o4:=aZ (w:=w3) (cs:=bo 0 j s n c) (t:=100) c3;have r4:=x4.at o_ (bk B3 hc);have p4:=x4.at o_ c3';have l4:=l3.keep x4 o_;have k4:=(hK.keep (an (X:=λ_=>False) B3) (λe=>e)).keep x4 o_;have X4:Ex (λb=>b=rb\/b=kb) w (put w3 w2.heap.size (bo 0 j s n c) 100):=(an B3).trans x4 λb hb e=>by omega
 revert o4 r4 p4 l4 k4 X4;generalize put w3 w2.heap.size (bo 0 j s n c) 100=w4;intro o4 r4 p4 l4 k4 X4
 iterate 3 refine aF J λa J=>?_
 refine aP J (λo ho=>cI (v:=.bool false) rfl rfl k_ ho (J.Q 16) rfl r4 (by decide:5<7)) λa J=>?_;rw[show(kR c0 c1 fl (.sk wb 85 qw) (.sk kb 16 qk) up sl).setIfInBounds 5 (.bool false)=kR c0 c1 fl (.sk wb 85 qw) (.sk kb 16 qk) false sl from rfl];have x5:=bC (w:=w4) rb (kR c0 c1 fl (.sk wb 85 qw) (.sk kb 16 qk) false sl) 107;have r5:=aZ (w:=w4) (cs:=kR c0 c1 fl (.sk wb 85 qw) (.sk kb 16 qk) false sl) (t:=107) r4;have o5:=x5.at o_ o4;have p5:=x5.at o_ p4;have l5:=l4.keep x5 o_;have k5:=k4.keep x5 Yg;have X5:=X4.trans x5 λb _ e=>.inl e;revert o5 r5 p5 l5 k5 X5;generalize put w4 rb (kR c0 c1 fl (.sk wb 85 qw) (.sk kb 16 qk) false sl) 107=w5;intro r5 o5 p5 l5 k5 X5;refine aF J λa J=>?_;refine a9 rfl (a9 rfl (a9 rfl ?_));exact Au hQ Yg YJ Xd hG WB hv hp G.length 0 K w5 _ o_ o_ rfl ⟨o5,p5,r5,l5,k5,X5,by omega,by omega,by omega⟩ (J.only ⟨rfl,rfl,rfl,rfl,rfl,rfl,trivial⟩)
end

theorem dp{a:Nat}{c c':Array Value}{t:TypeId}{f f':Nat×Nat}(h1:w.heap[a]?=some (.cells c t f))(h2:w.heap[b]?=some (.cells c' t' f'))(ht:t≠t'):a≠b:=λe=>by
 rw[e,h2]at h1;injection h1 with h1;injection h1 with _ h1;exact ht h1.symm
section
variable{rb fr hb:Nat}{V K K':List Int}{on Yf:Bool}{U4:Int}{up up':Bool}{rs':Int}{mv:Value}
theorem fY.boot(h:fY w pb lb cb fb fq rb fr Tp wb qw kb qk hb hq tb tq KS V K L on sl up rs lv mv ls ms)(x:Ex (λb=>b=cb\/b=rb\/b=kb) w w')(VF:i8 w' cb (.sk fb L.size fq) V K' Yf U4)
 (hrf:w'.heap[rb]?=some (.cells (kR (.sk hb 8 hq) (.sk tb 64 tq) (.sk fr L.size Tp) (.sk wb 85 qw) (.sk kb 16 qk) up' rs') 107)) (Uw:uy w' kb qk K'):
 fY w' pb lb cb fb fq rb fr Tp wb qw kb qk hb hq tb tq KS V K' L Yf U4 up' rs' lv mv ls ms:=by
 have hc:=h.ch.2.2;have hr:=h.ref;obtain⟨_,_,ck,fk,hk,_⟩:=id h.kpt;have n3:∀{b:Nat} {c:Array Value} {t:TypeId} {f:Nat×Nat},w.heap[b]?=some (.cells c t f)->t≠149->t≠107->t≠5->¬(b=cb\/b=rb\/b=kb):=λh1 t1 t2 t3 e=>by
  rcases e with e|e|e
  .exact dp h1 hc t1 e
  .exact dp h1 hr t2 e
  .exact dp h1 hk t3 e
 have ni:∀{b:Nat} {l:List Int},dZ w b l->¬(b=cb\/b=rb\/b=kb):=λhi=>by
  obtain⟨c,h1,_⟩:=hi;exact n3 h1 d_ d_ d_
 have nf:∀{b q:Nat},kb≠b->j7 w (.sk b L.size q) L->¬(b=cb\/b=rb\/b=kb):=λT2 hf e=>by
  obtain⟨_,b',q',cells,f,e1,_,h1,_⟩:=hf;cases e1;rcases e with e|e|e
  .exact dp h1 hc d_ e
  .exact dp h1 hr d_ e
  .exact T2 e.symm
 exact⟨x.at (n3 h.pr d_ d_ d_) h.pr,x.at (n3 h.lin d_ d_ d_) h.lin,VF,h.fls.keepB x (nf h.nk.1 h.fls),hrf,h.rfs.keepB x (nf h.nk.2.1 h.rfs),h.wds.keep x (ni h.wds),Uw,h.hsh.keep x (ni h.hsh),h.tab.keep x (ni h.tab),h.lst.keep x (λb cs f hb=>.inl (n3 hb d_ d_ d_)) (λb cs f hb=>n3 hb d_ d_ d_),h.nk⟩
theorem Fp{u:TypeId}{p:Option Addr}(SS:o.op=.binOp .eql 56 x y u)(hx:ev x=.pointer p)(hy:ev y=.pointer none):(execOp ev o).run prog w=.ok (.value (.bool p.isNone)) w:=by
 cases p with
 |none=>
  have e:execOp ev o=(do pure (.value (←(do eqGuard .eql 56 x y (.pointer none) (.pointer none);binOp .eql 56 (.pointer none) (.pointer none))))):=by simp only[execOp,SS,hx,hy]
  have h2:(do pure (.value (←(do eqGuard .eql 56 x y (.pointer none) (.pointer none);binOp .eql 56 (.pointer none) (.pointer none)))):Sem Next).run prog w=.ok (.value (.bool true)) w:=by kernel_rfl
  rw[e,h2];rfl
 |some p=>
  have e:execOp ev o=(do pure (.value (←(do eqGuard .eql 56 x y (.pointer (some p)) (.pointer none);binOp .eql 56 (.pointer (some p)) (.pointer none))))):=by simp only[execOp,SS,hx,hy]
  have h2:(do pure (.value (←(do eqGuard .eql 56 x y (.pointer (some p)) (.pointer none);binOp .eql 56 (.pointer (some p)) (.pointer none)))):Sem Next).run prog w=.ok (.value (.bool false)) w:=by kernel_rfl
  rw[e,h2];rfl
end

theorem MO{G:List Int}(hc:w.heap[g]?=some (.cells (kg G 4) 3)):cV w (.sk g G.length q) (aO G):=⟨some ⟨g,0,none⟩,q,by simp[aO],λi u hi=>⟨_,rfl,by
 have Tj:i<G.length:=by have:=(aw5.1 hi).1;simpa[aO]using this
 rw[az3,aw9,ar hc,vq G Tj 4,←hi];simp[aO,Tj]⟩⟩
section
variable{rb fr hb:Nat}{V K G:List Int}{on:Bool}{up:Bool}{mv:Value}{p:Option Addr}
theorem QN(VD:kN)(SY:KS.length=64)(Te:iS KS)(hV:dL V)(h:fY w pb lb cb fb fq rb fr Tp wb qw kb qk hb hq tb tq KS V K L on sl up rs lv mv ls ms)(h0:cb≠0)(hT:w.rangeAt 0 0 (aI KS))(hG:G.length<=17592186043904)(WB:∀x∈G,x<9223372036854775808)(hv:cV w (.slice p G.length q) (aO G))(hp:∀a:Addr,p=some a->G≠[]->a.block≠cb/\a.block≠rb/\a.block≠kb):
 Cl kX 23 #[.pk pb 0,.slice p G.length q] w λe w'=>e=.returned (.bool true)/\∃K' Yf U4 rs',fY w' pb lb cb fb fq rb fr Tp wb qw kb qk hb hq tb tq KS V K' L Yf U4 Yf rs' lv mv ls ms/\(Yf=true->rs'=U4)/\Ex (λb=>b=cb\/b=rb\/b=kb) w w':=by
 obtain⟨ns,j,s,n,c,hQ⟩:=yE KS V L;refine az (N:=32) func23 KJ λcs a J=>?_;have TN:=h.ch.lt;have hrl:=aA h.ref;have hpl:=aA h.pr;obtain⟨_,_,ck,fk,hk,_⟩:=id h.kpt;have ZS:=aA hk;have ncr:cb≠rb:=dp h.ch.2.2 h.ref d_;have nck:cb≠kb:=dp h.ch.2.2 hk d_;have nrk:rb≠kb:=dp h.ref hk d_;have npc:pb≠cb:=dp h.pr h.ch.2.2 d_
 iterate 2 refine aF J λa J=>?_
 refine bz J func45 (BE hv o_) λw1 ⟨c1,b1⟩ a J=>?_;have h1:=h.below b1;have z1:=aA c1;have YL:=h1.pr;have hT1:w1.rangeAt 0 0 (aI KS):=λj v hv=>aU b1 (hT j v hv)
 iterate 6 refine aF J λa J=>?_
 refine bp J func49 (NN (G:=G) (p:=some ⟨w.heap.size,0,none⟩) (q:=G.length+4) VD SY hQ h1.ch hV h1.fls h0 hT1 h1.lin o_ WB (MO c1) λa e _=>by cases e;show w.heap.size≠cb;omega) λv w2 XE a J=>?_;obtain⟨rfl,ch2,f2,x2⟩:=XE;have z2:=x2.size;refine bA J (λo ho=>i2 ho) λw3 a b3 c3 z3 J=>?_;refine aP J (λo ho=>dM ho (J.Q 6) (J.Q 16) c3 rfl) λa J=>?_;have x4:=bC (w:=w3) w2.heap.size (bo (jS ns K G 0).2 j s n c) 100;have o4:=aZ (w:=w3) (cs:=bo (jS ns K G 0).2 j s n c) (t:=100) c3;have X4:Ex (· =cb) w (put w3 w2.heap.size (bo (jS ns K G 0).2 j s n c) 100):=(((an b1).trans x2 λ_ _ e=>e).trans (an (X:=λ_=>False) b3) λ_ _ e=>e.elim).trans x4 λb hb e=>by omega
 have c4:=x4.at o_ (bk b3 (x2.at o_ c1));have ch4:=(ch2.ex (an (X:=λ_=>False) b3) (λe=>e)).ex x4 o_;have s4:=fm (w:=w3) (b:=w2.heap.size) (cs:=bo (jS ns K G 0).2 j s n c) (t:=100);revert o4 X4 c4 ch4 s4;generalize put w3 w2.heap.size (bo (jS ns K G 0).2 j s n c) 100=w4;intro o4 X4 c4 ch4 s4
 iterate 2 refine aF J λa J=>?_
 refine bz J func48 (xx o_ (cV.ex hv X4 λa _ _ e T2=>by
  injection e with e1;exact(hp a e1 λe=>T2 (by rw[e];rfl)).1) c4) λw5 b5 a J=>?_
 have z5:=b5.size;have X5:Ex (· =cb) w w5:=X4.trans (an (X:=λ_=>False) b5) λ_ _ e=>e.elim;have YL:=X5.at npc h.pr;have hrf5:=X5.at (aA3 ncr) h.ref;have nfr:¬fr=cb:=by
  obtain⟨_,b',q',cells,f,e1,_,g1,_⟩:=h.rfs;cases e1;exact dp g1 h.ch.2.2 d_
 have nw:∀{b:Nat} {l:List Int},dZ w b l->b≠cb:=λhi=>by
  obtain⟨c,g1,_⟩:=hi;exact dp g1 h.ch.2.2 d_
 have Y_:jl KS #[.sk hb 8 hq,.sk tb 64 tq] w5:=⟨hb,hq,tb,tq,rfl,(h.hsh.keep X5 (nw h.hsh)).rng,(h.hsh.keep X5 (nw h.hsh)).lt,(h.tab.keep X5 (nw h.tab)).rng,(h.tab.keep X5 (nw h.tab)).lt⟩
 iterate 6 refine aF J λa J=>?_
 refine bp J func50 (NM SY Te hQ hrf5 Y_ (h.rfs.keepB X5 nfr) hV (h.wds.keep X5 (nw h.wds)).rng (h.kpt.keep X5 (aA3 nck)) hG WB (cV.ex hv X5 λa _ _ e T2=>by
  injection e with e1;exact(hp a e1 λe=>T2 (by rw[e];rfl)).1) λa e T2=>(hp a e T2).2) λv w6 hv6 a J=>?_
 obtain⟨rfl,rf6,kp6,x6⟩:=hv6;have z6:=x6.size;have ch6:=(ch4.ex (an (X:=λ_=>False) b5) (λe=>e)).ex x6 (λe=>e.elim ncr nck);have o6:=x6.at (by rintro(e|e)<;>omega) (bk b5 o4);refine bA J (λo ho=>i2 ho) λw7 a b7 c7 z7 J=>?_;refine aP J (λo ho=>dM ho (J.Q 8) (J.Q 25) c7 rfl) λa J=>?_;have x8:=bC (w:=w7) w6.heap.size (bo (jS ns K G 0).2 j s n c) 100;have o8:=aZ (w:=w7) (cs:=bo (jS ns K G 0).2 j s n c) (t:=100) c7;have o8':=x8.at o_ (bk b7 o6);have B6:Ex (λb=>b=cb\/b=rb\/b=kb) w w6:=(Ex.wide X5 λ_ _ e=>.inl e).trans x6 λb _ e=>.inr e;have hB:=h.boot B6 ch6 rf6 kp6;have h8:=(hB.below b7).ex x8 ⟨by have:=aA hB.lin;omega,by have:=hB.ch.lt;omega,by
  obtain⟨_,b',q',cells,f,e1,_,g1,_⟩:=hB.fls;cases e1;have:=aA g1;omega,by have:=aA hB.ref;omega,by
  obtain⟨_,b',q',cells,f,e1,_,g1,_⟩:=hB.rfs;cases e1;have:=aA g1;omega,by have:=hB.wds.lt;omega,by
  obtain⟨_,_,_,_,g1,_⟩:=hB.kpt;have:=aA g1;omega,by have:=hB.hsh.lt;omega,by have:=hB.tab.lt;omega⟩ (x8.at (by have:=aA hB.pr;omega) (bk b7 hB.pr)) ((hB.lst.below b7).keep x8 (λb cs f g1=>.inl (dp g1 c7 d_)) λb cs f g1=>dp g1 c7 d_)
 iterate 2 refine aF J λa J=>?_
 refine ai J (λo ho=>kY ho (J.Q 6) o8') λa J=>?_;refine ai J (λo ho=>kY ho (J.Q 8) o8) λa J=>?_;refine sP J (hy:=λo ho=>Gy ho (J.Q 28) (J.Q 29)) λa J=>?_
 iterate 2 refine aF J λa J=>?_
 exact aH J ⟨rfl,_,_,_,_,h8,λe=>by rw[if_pos e],(B6.trans (an (X:=λ_=>False) b7) λ_ _ e=>e.elim).trans x8 λb hb e=>by omega⟩
end

theorem O2:f47.body=some (.seq (rG f47 0) (.seq (rG f47 1) (.seq (.seq (rG f47 2) (.cond (.tmp 20) (.seq (rG f47 3) .ret) .skip)) (.seq (rG f47 4) (.seq (rG f47 5) (.seq (rG f47 6) .ret)))))):=by kernel_rfl
theorem ME{h1 n1 c1 h2 n2 c2 h3 n3 c3 h4 n4 c4:Nat}(SS:o.op=.build 107 #[(0,x),(1,y),(3,z)])(hx:ev x=.agg #[.sk h1 n1 c1,.sk h2 n2 c2])(hy:ev y=.sk h3 n3 c3)(hz:ev z=.sk h4 n4 c4):
 (execOp ev o).run prog w=.ok (.value (.agg (kR (.sk h1 n1 c1) (.sk h2 n2 c2) (.sk h3 n3 c3) (.slice none 0 0) (.sk h4 n4 c4) false 0))) w:=by
 have e:execOp ev o=(do pure (.value (←ax9 107 #[(0,.agg #[.sk h1 n1 c1,.sk h2 n2 c2]),(1,.sk h3 n3 c3),(3,.sk h4 n4 c4)]))):=by simp[execOp,SS,hx,hy,hz]
 have h2:(do pure (.value (←ax9 107 #[(0,.agg #[.sk h1 n1 c1,.sk h2 n2 c2]),(1,.sk h3 n3 c3),(3,.sk h4 n4 c4)])):Sem Next).run prog w=.ok (.value (.agg (kR (.sk h1 n1 c1) (.sk h2 n2 c2) (.sk h3 n3 c3) (.slice none 0 0) (.sk h4 n4 c4) false 0))) w:=by kernel_rfl
 rw[e,h2]
theorem Qr(hk:kp.size=16)(h:j7 w (.sk kb kp.size q) kp):uy w kb q (Dj kp):=by
 obtain⟨_,b,c,cells,fr,e,h1,h2,h3,h4⟩:=h;cases e;refine⟨Lr hk,by omega,cells,fr,h2,by omega,λj hj=>?_⟩;have Ux:j<kp.data.toList.length:=by simpa[Dj]using hj
 rw[h4 j Ux];simp[Dj]
theorem xA{base:Nat}(h:w.ownsRow base 3 1 v n (aO ns))(hp:1<=ns.length):∃g cap,v=.sk g ns.length cap/\base<=g/\dZ w g ns:=
 let ⟨g,cap,h1,h2,_,cur,h3,h4⟩:=BG h hp
 ⟨g,cap,h1,h2,cur,h3,h4⟩
section
variable{W:List Int}{off cap:Nat}
structure Sf (L kp:ByteArray) (W:List Int) (w:World) (lb cb fb fq:Nat) (w':World):Prop where
 lin:w'.heap[lb]?=some (.cells #[.pk cb 0] 127)
 ch:i8 w' cb (.sk fb L.size fq) W (Dj kp) false 0
 fls:j7 w' (.sk fb L.size fq) L
 at':w.heap.size<=fb/\fb<cb/\cb<lb
 below:Bw w w'
theorem Q6(hL:L.size<4611686018427387904)(Uw:kp.size=16)(hW:dL W)(hr:w.rangeAt g off (W.map (Value.int .i64))):Cl kX 46 #[.string L,.slice (some ⟨g,off,none⟩) 85 cap,.string kp] w λe w'=>∃v,e=.returned v/\∃lb cb fb fq,v=.tuple #[.pk lb 0,.int .i64 0]/\Sf L kp W w lb cb fb fq w':=by
 refine cU (t:=6) (u:=7) func46 rfl λcs=>?_;refine bv (N:=23) func46 Ob λa J=>?_
 iterate 5 refine ao J λa J=>?_
 have hN:=MS (cap:=cap) (kp:=kp) hL hr;rw[hW.1]at hN;refine bp J func74 hN λv w1 hv a J=>?_;obtain⟨hv,b1⟩:=hv;rcases hv with⟨hn,_⟩|⟨_,cb,fb,fq,rfl,h1,f1,l1,l2⟩
 .exact absurd ⟨hW,Uw⟩ hn
 have hl:=h1.lt
 iterate 7 refine ao J λa J=>?_
 refine a9 rfl (ak _ (J.Q 18) ?_);refine ao J λa J=>?_;refine ai J (λo ho=>Mn ho (J.Q 20)) λa J=>?_;refine dw J λw2 a b2 c2 z2 J=>?_
 iterate 2 refine ao J λa J=>?_
 exact eN J ⟨_,rfl,w1.heap.size,cb,fb,fq,rfl,c2,h1.ex (an (X:=λ_=>False) b2) (λe=>e),f1.keep (an (X:=λ_=>False) b2) (λ_ _ _ _ e=>e),⟨l1,l2,hl⟩,ae b1 b1.size b2⟩
structure Se (L kp:ByteArray) (W:List Int) (hb hq tb tq:Nat) (w:World) (rb fr Tp wb qw kb qk:Nat) (w':World):Prop where
 ref:w'.heap[rb]?=some (.cells (kR (.sk hb 8 hq) (.sk tb 64 tq) (.sk fr L.size Tp) (.sk wb 85 qw) (.sk kb 16 qk) false 0) 107)
 fls:j7 w' (.sk fr L.size Tp) L
 wds:dZ w' wb W
 kpt:uy w' kb qk (Dj kp)
 at':w.heap.size<=fr/\fr<kb/\kb<rb/\rb<wb
 below:Bw w w'
theorem Q5{hb:Nat}(hL:L.size<4611686018427387904)(Uw:kp.size=16)(hW:dL W)(hr:w.rangeAt g off (W.map (Value.int .i64))):Cl kX 47 #[.agg #[.sk hb 8 hq,.sk tb 64 tq],.string L,.slice (some ⟨g,off,none⟩) 85 cap,.string kp] w λe w'=>∃v,e=.returned v/\∃rb fr Tp wb qw kb qk,v=.tuple #[.pk rb 0,.int .i64 0]/\Se L kp W hb hq tb tq w rb fr Tp wb qw kb qk w':=by
 refine cU (t:=8) (u:=9) func47 rfl λcs=>?_;refine bv (N:=38) func47 O2 λa J=>?_;refine dw J λw1 a b1 c1 z1 J=>?_
 iterate 3 refine aF J λa J=>?_
 have rg:∀{w':World},Bw w w'->w'.rangeAt g off (W.map (Value.int .i64)):=λhb j v hv=>aU hb (hr j v hv);refine bz J func75 (wX hW (rg b1)) λw' hw a J=>?_;rw[hw]
 iterate 6 refine aF J λa J=>?_
 rw[Uw]at J;refine ai J (λo ho=>mD (m:=16) (n:=16) ho (J.get (d:=18) rfl) rfl) λa J=>?_;refine ai J (λo ho=>gk ho (J.get (d:=16) rfl) (J.get (d:=19) rfl)) λa J=>?_;refine a9 rfl (ak _ (J.get (d:=20) rfl) ?_);refine ai J (λo ho=>cF ⟨_,_,rfl⟩ ho (J.get (d:=4) rfl) c1) λa J=>?_;refine aF J λa J=>?_;refine dX J (λo ho e=>uI hL ho (J.get (d:=22) rfl) e) λv w2 ⟨Tp,ev2,b2,z2,f2⟩ a J=>?_;subst ev2;refine aF J λa J=>?_;refine dX J (λo ho e=>uI (by rw[Uw];decide) ho (J.get (d:=24) rfl) e) λv w3 ⟨qk,ev3,b3,z3,f3⟩ a J=>?_;subst ev3;rw[Uw]at J;refine ai J (λo ho=>ME ho (J.get (d:=21) rfl) (J.get (d:=23) rfl) (J.get (d:=25) rfl)) λa J=>?_;refine dw J λw4 a b4 c4 z4 J=>?_;have B3:=ae (ae b1 b1.size b2) o_ b3;have B4:=ae B3 o_ b4
 iterate 7 refine aF J λa J=>?_
 have To:w4.ownsRow w4.heap.size 3 1 (.slice none 0 0) 0 []:=⟨rfl,.inl ⟨rfl,rfl⟩⟩;refine dX J (λo SS=>lN (t:=24) (z:=.int .i64 0) (bytes:=8) (m:=85) (news:=aO W) k_ k_ rfl To (λj u hu=>by rw[az3];exact rg B4 j u hu) (j5 W) (by simp[aO,hW.1]) (J.get (d:=32) rfl) (J.get (d:=33) rfl) (by unfold maxLen;omega) o_ (aw0 _) o SS) λv5 w5 ⟨o5,_,g5⟩ a J=>?_;rw[aw9,aN6]at o5;obtain⟨wb,qw,rfl,hwb,i5⟩:=xA o5 (by rw[hW.1];decide);rw[hW.1]at J;have b5:Bw w4 w5:=⟨g5.os,g5.tape,g5.output,g5.size,λb hb=>g5.block b hb (by simp[Value.ownBlock])⟩;have c5:=bk b5 c4
 iterate 2 refine aF J λa J=>?_
 refine aP J (λo ho=>cI (v:=.sk wb 85 qw) rfl rfl k_ ho (J.get (d:=36) rfl) (J.get (d:=34) rfl) c5 (by decide:3<7)) λa J=>?_;rw[show(kR (.sk hb 8 hq) (.sk tb 64 tq) (.sk w1.heap.size L.size Tp) (.slice none 0 0) (.sk w2.heap.size 16 qk) false 0).setIfInBounds 3 (.sk wb 85 qw)=kR (.sk hb 8 hq) (.sk tb 64 tq) (.sk w1.heap.size L.size Tp) (.sk wb 85 qw) (.sk w2.heap.size 16 qk) false 0 from rfl];have x6:=bC (w:=w5) w3.heap.size (kR (.sk hb 8 hq) (.sk tb 64 tq) (.sk w1.heap.size L.size Tp) (.sk wb 85 qw) (.sk w2.heap.size 16 qk) false 0) 107;have f5:=(((f2.keep (an (X:=λ_=>False) b3) (λ_ _ _ _ e=>e)).keep (an (X:=λ_=>False) b4) (λ_ _ _ _ e=>e)).keep (an (X:=λ_=>False) b5) (λ_ _ _ _ e=>e)).keep x6 λb cs fr hb=>gF c5 d_ b cs fr hb;have k5:=Qr Uw (((f3.keep (an (X:=λ_=>False) b4) (λ_ _ _ _ e=>e)).keep (an (X:=λ_=>False) b5) (λ_ _ _ _ e=>e)).keep x6 λb cs fr hb=>gF c5 d_ b cs fr hb);have X6:Ex (λ_=>False) w (put w5 w3.heap.size (kR (.sk hb 8 hq) (.sk tb 64 tq) (.sk w1.heap.size L.size Tp) (.sk wb 85 qw) (.sk w2.heap.size 16 qk) false 0) 107):=(an (ae B4 o_ b5)).trans x6 λb hb e=>by omega
 iterate 3 refine aF J λa J=>?_
 exact eN J ⟨_,rfl,w3.heap.size,w1.heap.size,Tp,wb,qw,w2.heap.size,qk,rfl,aZ c5,f5,i5.keep x6 o_,k5,⟨by omega,by omega,by omega,by omega⟩,X6.os,X6.tape,X6.output,X6.size,λb hb=>X6.block b hb λe=>e⟩
end

theorem N2(w:World)(Z:Nat->Prop):Ls w Z (.slice none 0 0) (.slice none 0 0) [] []:=⟨⟨rfl,.inl ⟨rfl,rfl⟩⟩,⟨rfl,.inl ⟨rfl,rfl⟩⟩,rfl,λi v m h=>(by simp at h),λv b h=>(by simp at h),λb h=>(by cases h),λv h=>(by simp at h)⟩
def Nc(f:Func):Code:=.seq (.seq (rG f 6) (.cond (.tmp 40) .skip (.exit 0))) (.seq (.block 1 (rG f 8)) (rG f 7))
def N1(f:Func):Code:=.seq (rG f 9) .ret
theorem Ou:f21.body=some (.seq (rG f21 0) (.seq (rG f21 1) (.seq (rG f21 2) (.seq (rG f21 3) (.seq (rG f21 4) (.seq (.seq (rG f21 5) (.block 0 (.loop (Nc f21)))) (N1 f21))))))):=by kernel_rfl
section
variable{u:TypeId}
theorem MF{p p':Option Addr}(SS:o.op=.build 60 #[(0,x),(1,y)])(hx:ev x=.pointer p)(hy:ev y=.pointer p'):(execOp ev o).run prog w=.ok (.value (.agg #[.pointer p,.pointer p',.slice none 0 0,.slice none 0 0])) w:=by
 have e:execOp ev o=(do pure (.value (←ax9 60 #[(0,.pointer p),(1,.pointer p')]))):=by simp[execOp,SS,hx,hy]
 have h2:(do pure (.value (←ax9 60 #[(0,.pointer p),(1,.pointer p')])):Sem Next).run prog w=.ok (.value (.agg #[.pointer p,.pointer p',.slice none 0 0,.slice none 0 0])) w:=by kernel_rfl
 rw[e,h2]
theorem wV{t:TypeId}(SS:o.op=.binOp .neq t x y u)(hx:ev x=.pointer (some ad))(hy:ev y=.pointer none)(hu:prog.underlying t=some (.pointer t')):(execOp ev o).run prog w=.ok (.value (.bool true)) w:=by
 have h:(aI_ aJ5 t (.pointer (some ad)) (.pointer none)).run prog w=.ok false w:=by
  rw[show aJ5=(aJ5- 1)+1 from by decide];simp[aI_,run_underlying hu]
 simp[execOp,SS,hx,hy,eqGuard,binOp,Op.equal,h]
theorem J7(SS:o.op=.binOp .eql 36 x y u)(hx:ev x=.int .i64 0)(hy:ev y=.int .i64 0):(execOp ev o).run prog w=.ok (.value (.bool true)) w:=by
 simp[execOp,SS,hx,hy,go_sem]
theorem J8{p q:Bool}(SS:o.op=.binOp .eql 4 x y u)(hx:ev x=.bool p)(hy:ev y=.bool q):(execOp ev o).run prog w=.ok (.value (.bool (p==q))) w:=by
 simp[execOp,SS,hx,hy,go_sem]
end
section
variable{h rb:Nat}
theorem AB(nt:∀a w,Ex (· =h) w0 w->aB [(11,.pk lb 0),(12,.int .i64 0),(13,.pk rb 0),(14,.int .i64 0),(15,.bool true)] 65 [] a->Rn kX Goal ((base 21).atR a [.code (N1 f21)]) cs w):
 ∀(m i:Nat) (w:World) (a:Act),85- i=m->i<=85->(∃cur:Array Value,w.heap[h]?=some (.cells cur 3)/\cur.size=89)->Ex (· =h) w0 w->aB [(16,.int .i64 i),(10,.sk h 85 89),(11,.pk lb 0),(12,.int .i64 0),(13,.pk rb 0),(14,.int .i64 0),(15,.bool true)] 65 [] a->Rn kX Goal ((base 21).atR a [.code (Nc f21),.inLoop (Nc f21),.inBlock 0,.code (N1 f21)]) cs w:=by
 intro m;induction m with
 |zero=>
  intro i w a hm hi hc hx J
  iterate 3 refine aF J λa J=>?_
  refine ai J (λo ho=>(ii (m:=i) (n:=(85:Nat)) ho (J.Q 37) (J.Q 39)).1) λa J=>?_;refine a9 rfl (ak _ (J.Q 40) ?_);rw[decide_eq_false o_];exact a9 rfl (nt _ _ hx (J.only ⟨rfl,rfl,rfl,rfl,rfl,trivial⟩))
 |succ m ih=>
  intro i w a hm hi ⟨cur,hc,hz⟩ hx J
  iterate 3 refine aF J λa J=>?_
  refine ai J (λo ho=>(ii (m:=i) (n:=(85:Nat)) ho (J.Q 37) (J.Q 39)).1) λa J=>?_;refine a9 rfl (ak _ (J.Q 40) ?_);rw[decide_eq_true o_]
  iterate 3 refine aF J λa J=>?_
  refine ai J (λo ho=>aN (m:=1) (n:=i) ho rfl (J.Q 45) o_) λa J=>?_;refine ai J (λo ho=>b_ i k_ ho (J.Q 43) (J.Q 44) o_) λa J=>?_;rw[aw9]at J;refine aP J (λo ho=>cI (v:=.int .i64 (1+i:Nat)) rfl rfl k_ ho (J.Q 47) (J.Q 46) hc o_) λa J=>?_;have c2:=aZ (cs:=cur.setIfInBounds i (.int .i64 (1+i:Nat))) (t:=3) hc;have x2:=hx.trans (bC (w:=w) h (cur.setIfInBounds i (.int .i64 (1+i:Nat))) 3) λ_ _ e=>e;refine aF J λa J=>?_;refine ai J (λo ho=>aN (n:=1) ho (J.Q 41) rfl o_) λa J=>?_;refine aF J λa J=>?_;exact a9 rfl (a9 rfl (ih (i+1) _ _ o_ o_ ⟨_,c2,by simpa using hz⟩ x2 (J.only ⟨rfl,rfl,rfl,rfl,rfl,rfl,rfl,trivial⟩)))
end
structure Rh (w:World) (L kp:ByteArray) (W:List Int) (hb hq tb tq:Nat) (pb lb cb fb fq rb fr Tp wb qw kb qk:Nat) (w':World):Prop where
 both:fY w' pb lb cb fb fq rb fr Tp wb qw kb qk hb hq tb tq ef W (Dj kp) L false 0 false 0 (.slice none 0 0) (.slice none 0 0) [] []
 at':w.heap.size<=pb/\w.heap.size<=lb/\w.heap.size<=cb/\w.heap.size<=fb/\w.heap.size<=rb/\w.heap.size<=fr/\w.heap.size<=wb/\w.heap.size<=kb
 below:Bw w w'
section
variable{W:List Int}{cap hb:Nat}
theorem DZ(hL:L.size<4611686018427387904)(Uw:kp.size=16)(hW:dL W)(hg:dZ w g W)(hh:dZ w hb H0)(ht:dZ w tb ef):Cl kX 21 #[.agg #[.sk hb 8 hq,.sk tb 64 tq],.string L,.sk g 85 cap,.string kp] w λe w'=>∃v,e=.returned v/\∃pb lb cb fb fq rb fr Tp wb qw kb qk,v=.tuple #[.pk pb 0,.bool true]/\Rh w L kp W hb hq tb tq pb lb cb fb fq rb fr Tp wb qw kb qk w':=by
 refine cU (t:=8) (u:=9) func21 rfl λcs=>?_;refine bv (N:=65) func21 Ou λa J=>?_;refine dw J λw1 a b1 c1 z1 J=>?_
 iterate 3 refine aF J λa J=>?_
 have Uq:∀{w':World},Bw w w'->cV w' (.sk g W.length cap) (aO W):=λ{w'} hb=>by
  refine⟨some ⟨g,0,none⟩,cap,by simp[aO],λi u hi=>⟨_,rfl,?_⟩⟩;have Tj:i<W.length:=by have:=(aw5.1 hi).1;simpa[aO]using this
  have:=(hg.keep (an (X:=λ_=>False) hb) (λe=>e)).rng i u (by rw[←hi];simp[aO])
  rwa [az3]
 have hN:=BE (cap:=cap) (p:=some ⟨g,0,none⟩) (Uq b1) (by rw[hW.1];decide);rw[hW.1]at hN;refine bz J func45 hN λw2 ⟨c2,b2⟩ a J=>?_;have z2:=aA c2;have B2:=ae b1 b1.size b2
 iterate 4 refine aF J λa J=>?_
 have Vi:w2.rangeAt w1.heap.size 0 (W.map (Value.int .i64)):=λj v hv=>by
  have hj:j<W.length:=by have:=(aw5.1 hv).1;simpa using this
  rw[aw9,ar c2,vq W hj 4,←hv];simp[hj]
 refine bp J func46 (Q6 hL Uw hW Vi) λv w3 hv a J=>?_;obtain⟨lb,cb,fb,fq,rfl,n3⟩:=hv;obtain⟨l3a,l3b,l3c⟩:=n3.at';have b3:=n3.below;have B3:=ae B2 B2.size b3;have z3:=b3.size;have Z9:=aA n3.lin
 iterate 5 refine aF J λa J=>?_
 refine ai J (λo ho=>cF ⟨_,_,rfl⟩ ho (J.Q 4) (bk b3 (bk b2 c1))) λa J=>?_
 iterate 3 refine aF J λa J=>?_
 have hr3:w3.rangeAt g 0 (W.map (Value.int .i64)):=(hg.keep (an (X:=λ_=>False) B3) (λe=>e)).rng;refine bp J func47 (Q5 hL Uw hW hr3) λv w4 hv a J=>?_;obtain⟨rb,fr,Tp,wb,qw,kb,qk,rfl,n4⟩:=hv;obtain⟨l4a,l4b,l4c,l4d⟩:=n4.at';have b4:=n4.below;have B4:=ae B3 B3.size b4;have z4:=b4.size;have hwb:=n4.wds.lt
 iterate 7 refine aF J λa J=>?_
 have hKp:=xx (w:=w4) (cap:=cap) (p:=some ⟨g,0,none⟩) (g:=w1.heap.size) (by rw[hW.1];decide) (Uq B4) (bk b4 (bk b3 c2));rw[hW.1]at hKp;refine bz J func48 hKp λw5 b5 a J=>?_;have z5:=b5.size;have c5:=bk b5 (bk b4 (bk b3 c2));have B5:=ae B4 B4.size b5
 iterate 2 refine aF J λa J=>?_
 refine a9 rfl (a9 rfl (a9 rfl (AB (w0:=w5) (λa w6 x6 J=>?_) 85 0 w5 _ rfl o_ ⟨_,c5,by rw[tY W o_,hW.1]⟩ Ex.refl (J.only ⟨rfl,rfl,rfl,rfl,rfl,rfl,rfl,trivial⟩))))
 iterate 2 refine aF J λa J=>?_
 refine ai J (λo ho=>MF ho (J.Q 48) (J.Q 49)) λa J=>?_;refine dw J λw7 a b7 c7 z7 J=>?_
 iterate 4 refine aF J λa J=>?_
 refine ai (v:=.bool true) J (λo ho=>J7 ho (J.Q 54) (J.Q 55)) λa J=>?_;refine ai J (λo ho=>fN ho (J.Q 53) (J.Q 56)) λa J=>?_
 iterate 2 refine aF J λa J=>?_
 refine ai J (λo ho=>wV (t':=127) ho (J.Q 59) rfl k_) λa J=>?_;refine aF J λa J=>?_;refine ai J (λo ho=>wV (t':=107) ho (J.Q 61) rfl k_) λa J=>?_;refine ai J (λo ho=>J8 ho (J.Q 60) (J.Q 62)) λa J=>?_;refine ai J (λo ho=>fN ho (J.Q 58) (J.Q 63)) λa J=>?_
 iterate 2 refine aF J λa J=>?_
 have z6:=x6.size;have X7:Ex (· =w1.heap.size) w4 w7:=((an b5).trans x6 λ_ _ e=>e).trans (an (X:=λ_=>False) b7) λ_ _ e=>e.elim;have X3:Ex (· =w1.heap.size) w3 w7:=(an b4).trans X7 λ_ _ e=>e;have X0:Ex (λ_=>False) w w7:=(an B4).trans X7 λb hb e=>by omega
 have nh:∀{b:Nat},w1.heap.size<b->¬b=w1.heap.size:=λh e=>by omega
 have h1s:=b1.size;have hhb:=hh.lt;have htb:=ht.lt;refine eN J ⟨_,rfl,w6.heap.size,lb,cb,fb,fq,rb,fr,Tp,wb,qw,kb,qk,rfl,⟨c7,X3.at (nh o_) n3.lin,n3.ch.ex X3 (nh o_),n3.fls.keepB X3 (nh o_),X7.at (nh o_) n4.ref,n4.fls.keepB X7 (nh o_),n4.wds.keep X7 (nh o_),n4.kpt.keep X7 (nh o_),hh.keep X0 (λe=>e),ht.keep X0 (λe=>e),N2 _ _,by omega,by omega,by omega⟩,⟨by omega,by omega,by omega,by omega,by omega,by omega,by omega,by omega⟩,X0.os,X0.tape,X0.output,X0.size,λb hb=>X0.block b hb λe=>e⟩
end



end Go.Proofs.YtkmoglhgkcnalaaGreatDoor.L1
namespace Go.Proofs.YtkmoglhgkcnalaaGreatDoor
open Go Go.Conc Go.RowKit
structure Rp (w:World) (fx:List (Nat×Value)) (ds:List Nat) (G:Nat->Value->World->Prop) (ops:Array Oper) (n:Nat) (o:Oper) (a:Act) (w':World):Prop where
 ho:ops[n]?=some o
 b:Bw w w'
 f:∀x {u},(h:fx.lookup x=some u:=by rfl)->a.eval (.tmp x)=u
 k:∀m {d},(h:ds[m]?=some d:=by rfl)->(g:needs ops n m=true:=by kernel_rfl)->∃v,a.eval (.tmp d)=v/\G m v w'
def Ni:Op->Bool
 | .call c=>match c.callee with
   | .value _=>true
   |_=>false
 |_=>false
def HD(C:iV)(a:Act)(o:Oper)(w:World)(R:Value->World->Prop):Prop:=(Ni o.op=false/\kU C.P a.eval o.op/\∃v w',(execOp a.eval o).run C.P w=.ok (.value v) w'/\R v w')\/(Ni o.op=true/\∃f args,Rk C a.eval o w (.enter f args) w/\Cl C f args w λe w'=>∃v,e=.returned v/\R v w')
section
variable{C:iV}{ds:List Nat}{G:Nat->Value->World->Prop}
theorem Rp.now(z:Rp w fx ds G ops n o a w')(hr:o.op=p->(execOp a.eval o).run C.P w'= .ok (.value v) Tm)(hR:R v Tm)(h:(ops[n]?).map (·.op)=some p:=by kernel_rfl)(hc:Ni p=false:=by rfl)(ok:kU C.P a.eval p:=by exact nR):HD C a o w' R:=by
 have e:o.op=p:=by rw[z.ho]at h;exact Option.some.inj h
 exact .inl ⟨e▸hc,e▸ok,v,Tm,hr e,hR⟩
theorem Rp.calls{xs:Array Operand}{ats:Array TypeId}{vs:Array Value}{Q:Value→World→Prop}(z:Rp w fx ds G ops n o a w')(hf:C.P.funcs[f]?=some fn)(hx:xs.map a.eval=vs)(hc:Cl C f vs w' λe Tm=>∃u,e=.returned u∧Q u Tm)(h:(ops[n]?).map (·.op)=some (.call {callee:=.value (.func f),args:=xs,argTypes:=ats}):=by rfl)(hn:(fn.name== "runtime.NumGoroutine")=false:=by kernel_rfl)(hb:fn.body.isNone=false:=by kernel_rfl):HD C a o w' Q:=by
 have e:o.op=.call {callee:=.value (.func f),args:=xs,argTypes:=ats}:=by rw[z.ho]at h;exact Option.some.inj h
 exact .inr ⟨by rw[e];rfl,f,vs,nA e hx hf hn hb rfl,hc⟩
theorem vY{b:Frame}{k:List Item}{id:Nat}(J:aB fx N df a)(ds:List Nat)(G:Nat->Value->World->Prop)(U9:∀n v w w',G n v w->Bw w w'->G n v w')
 (rows:∀n o a w',n<ds.length->Rp w fx ds G ops n o a w'->HD C a o w' λv Tm=>G n v Tm/\Bw w' Tm)
 (next:∀a w',Bw w w'->aB fx N df a->(∀m d,ds[m]?=some d->∃v,a.tmps[d]?=some v/\G m v w')->Rn C Goal (b.atR a k) cs w') (TQ:C.P.follows .mixedOrders=true:=by kernel_rfl) (Tf:ops.size=ds.length:=by kernel_rfl) (TD:fQ ops ds (fx.map (·.1)) N=true:=by kernel_rfl) (hgd:ops.all (λo=>o.guard.isNone)=true:=by kernel_rfl) (T5:(fx.map (·.1)).Nodup:=by simp):Rn C Goal (b.atR a (.code (.region id ops true)::k)) cs w:=by
 refine uq (fx:=fx) (ds:=ds) (N:=N) (df:=df) (G:=G) TQ TD U9 (λn o a w' hn ho hb _ Wm T2=>?_)
  (λm a w'=>m=ops.size/\Bw w w'/\aB fx N df a/\∀m d,ds[m]?=some d->∃v,a.tmps[d]?=some v/\G m v w') (λa w' hG=>⟨Tf.symm,hG.old,Ce hG.defers hG.size hG.fixed,λm d hd=>hG.come m d hd trivial⟩) (λm o a w' rest hm ho hS hgo=>?_) (λa w' h=>next a w' h.2.1 h.2.2.1 h.2.2.2) J.defers J.size (J.all T5)
 .have hw:Region.wanted o (yielded ops a.tmps)=true:=by
   obtain⟨h1,h2⟩:=Array.getElem?_eq_some_iff.1 ho;have:=(Array.all_eq_true.1 hgd) n h1;rw[h2,Option.isNone_iff_eq_none]at this;simp[Region.wanted,this]
  have z:∀w1,tz C.pad w' w1->Rp w fx ds G ops n o a w1:=λw1 hp=>⟨ho,ae hb hb.size hp.below,λx u h=>aW (Wm (x,u) (kF h)),λm d hd hg=>by
   obtain⟨v,h1,h2⟩:=T2 m d hd hg;exact⟨v,aW h1,U9 m v w' w1 h2 hp.below⟩⟩
  have z0:Rp w fx ds G ops n o a w':=⟨ho,hb,λx u h=>aW (Wm (x,u) (kF h)),λm d hd hg=>by
   obtain⟨v,h1,h2⟩:=T2 m d hd hg;exact⟨v,aW h1,h2⟩⟩
  refine .inl ⟨hw,?_⟩;rcases rows n o a w' hn z0 with⟨hc,ok,_⟩|⟨_,f,args,h1,h2⟩
  .refine .inl ⟨i3 ok,λw1 hp=>?_⟩;rcases rows n o a w1 hn (z w1 hp)with⟨_,_,v,Tm,q1,q2,q3⟩|⟨VG,_⟩
   .exact⟨v,Tm,q1,q2,ae hp.below hp.below.size q3⟩
   .rw[hc]at VG;cases VG
  .exact .inr ⟨f,args,h1,h2⟩
 .have:=(Array.getElem?_eq_some_iff.1 ho).1;omega
end

end Go.Proofs.YtkmoglhgkcnalaaGreatDoor
namespace Go.Proofs.YtkmoglhgkcnalaaGreatDoor.L1
open Go Go.Conc Go.RowKit Go.Proofs.YtkmoglhgkcnalaaGreatDoor
theorem lC(hn:n<=65536)(SS:o.op=.makeSlice 83 x y)(hx:ev x=.int .i64 n)(hy:ev y=.int .i64 n):
 (execOp ev o).run prog w=.ok (.value (.sk w.heap.size n n)) (w.alloc (.cells (madeCells #[.int .u8 0] n) 5)):=by
 have h:=run_make_row' (P:=prog) 83 5 (.int .u8 0) 1 underlying83 k_ rfl .i64 .i64 n o_ o_ w;have e:execOp ev o=(do pure (.value (←aH9 83 (.int .i64 n) (.int .i64 n)))):=by simp only[execOp,SS,hx,hy]
 rw[e];simp[h]
def qZ(n:Nat):ByteArray:=⟨(ax2 n (0:UInt8)).toArray⟩
theorem ff(n:Nat):(qZ n).size=n:=by show(ax2 n (0:UInt8)).toArray.size=n;simp
theorem j8(SS:o.op=.convert 83 9 x)(hx:ev x=.sk g n n)(hc:w.heap[g]?=some (.cells (madeCells #[.int .u8 0] n) 5)):(execOp ev o).run prog w=.ok (.value (.string (qZ n))) w:=by
 refine rI (l:=ax2 n 0) SS (by rw[aL5];exact hx) λj hj=>?_;rw[iC]at hc;have h:=ar hc j;rw[h];have Ux:j<n:=by simpa using hj
 simp[Ux]
theorem KM:f39.body=some (.seq (rG f39 0) (.seq (.seq (rG f39 1) (.cond (.tmp 5) (.seq (rG f39 2) .ret) .skip)) (.seq (rG f39 3) .ret))):=by kernel_rfl
theorem z_(s:ByteArray)(w:World):
 Cl kX 39 #[.string s] w λe w'=>∃r:ByteArray,e=.returned (.string r)/\r.size<=s.size+8192/\Bw w w':=by
 refine az (N:=14) func39 KM λcs a J=>?_
 iterate 4 refine ab J λa J=>?_
 refine a9 rfl (ak _ (J.Q 5) ?_);by_cases h:8192<=s.size
 .rw[decide_eq_true o_]
  iterate 2 refine ab J λa J=>?_
  exact aH J ⟨s,rfl,by omega,aw8 _ _⟩
 rw[decide_eq_false o_];have e1:(8192:Int)-(s.size:Int)=((8192- s.size:Nat):Int):=by omega
 iterate 4 refine ab J λa J=>?_
 rw[e1]at J;refine bA J (λo ho=>lC (n:=8192- s.size) o_ ho (J.Q 10) (J.Q 10)) λw1 a b1 c1 _ J=>?_;refine ai J (λo ho=>j8 ho (J.Q 11) c1) λa J=>?_;refine ai J (λo ho=>cN ho (J.Q 7) (J.Q 12) (by rw[ff];omega)) λa J=>?_;refine ab J λa J=>?_;exact a9 rfl (aS rfl (.inr ⟨_,rfl⟩) (bj ⟨a,_,_,rfl,J.defers,J.slot 2 _ rfl,_,rfl,by rw[ByteArray.size_append,ff];omega,b1⟩))

theorem yR{s:Sc}(kd:yc s)(hs:s.seed.size<=140737488351232):E7 (dT ef s)/\(dT ef s).sh<=8/\1<=(dT ef s).n/\(dT ef s).n<=34*(8/(dT ef s).wd)/\(dT ef s).t<1000/\(dT ef s).c<1000/\(dT ef s).path.size<=1000/\(dT ef s).root.size<=1000:=by
 have ok:=kd.ok hs;have hps:(dT ef s).path.size=32*s.h:=mF ef s.seed _ s.h;have hrs:(dT ef s).root.size=32:=rF ef s.id s.seed _ _ (fh ef _) s.h;have h5:=ok.h;obtain⟨k1,k2,k3,k4,k5,k6,k7,k8⟩:=kd;refine⟨⟨ok.len,ok.id,ok.q,ok.h,ok.wd,ok.n⟩,?_,?_,?_,?_,?_,by omega,by omega⟩
 .show s.sh<=8;rcases k2 with e|e|e<;>rw[k6,e]<;>decide
 .show 1<=s.n;rcases k2 with e|e|e<;>rw[k5,e]<;>decide
 .show s.n<=34*(8/s.wd);rcases k2 with e|e|e<;>rw[k5,k4,e]<;>decide
 .show s.t<1000;omega
 .show s.c<1000;omega
def Lt(ch qi:Int)(seed:ByteArray)(ver en gap ex:Int)(body:ByteArray)(sa sw sc:Int)(sm:ByteArray)(aa aw aq:Int)(am:ByteArray):Array Value:=
 #[.int .i64 ch,.int .i64 qi,.string seed,.int .i64 ver,.int .i64 en,.int .i64 gap,.int .i64 ex,.string body,.int .i64 sa,.int .i64 sw,.int .i64 sc,.string sm,.int .i64 aa,.int .i64 aw,.int .i64 aq,.string am]
def wv(v:Int):Nat:=(v%18446744073709551616).toNat
theorem wo(v:Int):((wv v:Nat):Int)=v%18446744073709551616:=by unfold wv;omega
section
variable{u:TypeId}{m n:Int}
theorem jV(j jo:Nat)(hj:(j<9/\jo=j)\/(j=9/\jo=12))(SS:o.op=.fieldAddr 41 x j)(hx:ev x=.pk b 0):(execOp ev o).run prog w=.ok (.value (.pk b jo)) w:=by
 have e:execOp ev o=(do pure (.value (←aw1 41 (.pk b 0) j))):=by simp only[execOp,SS,hx]
 have h2:(do pure (.value (←aw1 41 (.pk b 0) j)):Sem Next).run prog w=.ok (.value (.pk b jo)) w:=by
  rcases hj with⟨hj,rfl⟩|⟨rfl,rfl⟩
  .rcases(by omega:jo=0\/jo=1\/jo=2\/jo=3\/jo=4\/jo=5\/jo=6\/jo=7\/jo=8)with rfl|rfl|rfl|rfl|rfl|rfl|rfl|rfl|rfl<;>kernel_rfl
  .kernel_rfl
 rw[e,h2]
theorem Fa(j:Nat)(hj:j<2)(SS:o.op=.fieldAddr 23 x j)(hx:ev x=.pk b 12):(execOp ev o).run prog w=.ok (.value (.pk b (12+j))) w:=by
 have e:execOp ev o=(do pure (.value (←aw1 23 (.pk b 12) j))):=by simp only[execOp,SS,hx]
 have h2:(do pure (.value (←aw1 23 (.pk b 12) j)):Sem Next).run prog w=.ok (.value (.pk b (12+j))) w:=by
  rcases(by omega:j=0\/j=1)with rfl|rfl<;>kernel_rfl
 rw[e,h2]
theorem PT(j:Nat)(hj:j=2\/j=4)(SS:o.op=.fieldAddr 29 x j)(hx:ev x=.pk b 0):(execOp ev o).run prog w=.ok (.value (.pk b j)) w:=by
 have e:execOp ev o=(do pure (.value (←aw1 29 (.pk b 0) j))):=by simp only[execOp,SS,hx]
 have h2:(do pure (.value (←aw1 29 (.pk b 0) j)):Sem Next).run prog w=.ok (.value (.pk b j)) w:=by
  rcases hj with rfl|rfl<;>kernel_rfl
 rw[e,h2]
theorem Ff{ch ver en gap ex sa sw sc aa aw aq:Int}{body sm am:ByteArray}(SS:o.op=.load 23 x)(hx:ev x=.pk b 8)(h:w.heap[b]?=some (.cells (Lt ch qi seed ver en gap ex body sa sw sc sm aa aw aq am) 41)):(execOp ev o).run prog w=.ok (.value (.agg #[.int .i64 sa,.int .i64 sw,.int .i64 sc,.string sm])) w:=by
 have h1:(isAgg 23).run prog w=.ok true w:=by kernel_rfl
 have hc:=ar h;simp[execOp,SS,hx,ay9,loadVar,h1,loadCells,loadCellsFrom,aF6,hc,Lt,go_sem]
theorem Je(SS:o.op=.build 23 #[(0,x),(1,y)])(hx:ev x=.int .i64 m)(hy:ev y=.int .i64 n):(execOp ev o).run prog w=.ok (.value (.agg #[.int .i64 m,.int .i64 n,.int .i64 0,.string ⟨#[]⟩])) w:=by
 have e:execOp ev o=(do pure (.value (←ax9 23 #[(0,.int .i64 m),(1,.int .i64 n)]))):=by simp[execOp,SS,hx,hy]
 have h2:(do pure (.value (←ax9 23 #[(0,.int .i64 m),(1,.int .i64 n)])):Sem Next).run prog w=.ok (.value (.agg #[.int .i64 m,.int .i64 n,.int .i64 0,.string ⟨#[]⟩])) w:=by kernel_rfl
 rw[e,h2]
theorem qO(SS:o.op=.binOp .mul 3 x y u)(hx:ev x=.int .i64 m)(hy:ev y=.int .i64 n)(h: -9223372036854775808<=m*n/\m*n<9223372036854775808):(execOp ev o).run prog w=.ok (.value (.int .i64 (m*n))) w:=by
 have e:ax8.wrap (m*n)=m*n:=by rw[ay4];omega
 simp[execOp,SS,hx,hy,go_sem,e]
theorem Jj(SS:o.op=.binOp .add 3 x y u)(hx:ev x=.int .i64 m)(hy:ev y=.int .i64 n):(execOp ev o).run prog w=.ok (.value (.int .i64 (ax8.wrap (m+n)))) w:=by
 simp[execOp,SS,hx,hy,go_sem]
end

end Go.Proofs.YtkmoglhgkcnalaaGreatDoor.L1
