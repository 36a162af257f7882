import Derived.Test.YtkmoglhgkcnalaaDoorSched
import Derived.Test.YtkmoglhgkcnalaaDoorAid2
namespace Go.Proofs.YtkmoglhgkcnalaaDoor
open Go.RowKit

theorem index_arr (G : List Int) (hG : G.length = 8) (k : Nat) (hk : k < 8) (W : World) : (Instr.index 53 (.agg (cellsW G).toArray) (.int .i64 (k : Int))).run Tryd.prog W = .ok (.int .u32 (G.getD k 0)) W := by
  have hs : (sizeOf 52).run Tryd.prog W = .ok 1 W := by kernel_rfl
  simp [Instr.index, asIntOf, run_underlying Tryd.underlying53, part, hs, hk, cellsW, hG]

theorem turned_e (x : Int) (w : World) : Calls Tryd.prog 55 #[.int .u32 x, .int .i64 6, .int .i64 11, .int .i64 25] w fun e w' => e = .returned (.int .u32 (turnedF x 6 11 25)) ∧ w' = w :=
  turned_any x 6 11 25 w (by omega) (by omega) (by omega) (by omega) (by omega) (by omega)
theorem turned_a (x : Int) (w : World) : Calls Tryd.prog 55 #[.int .u32 x, .int .i64 2, .int .i64 13, .int .i64 22] w fun e w' => e = .returned (.int .u32 (turnedF x 2 13 22)) ∧ w' = w :=
  turned_any x 2 13 22 w (by omega) (by omega) (by omega) (by omega) (by omega) (by omega)

set_option maxRecDepth 100000 in
set_option maxHeartbeats 1000000 in
theorem mixed_any (H KS : List Int) (B : List UInt8) (hH : H.length = 8) (hB : B.length = 64) (w : World) (hK : w.rangeAt 0 0 (cellsW KS)) (hKl : KS.length = 64) (h0 : 0 < w.heap.size) :
    Calls Tryd.prog 46 #[.agg (cellsW H).toArray, .agg (cellsB B).toArray] w fun e w' => e = .returned (.agg (cellsW (mixF KS H B)).toArray) ∧ Below w.heap.size w w' := by
  have hi54 : (Tryd.prog.info? 54).map (·.size) = some (cellsB B).length := by rw [cellsB_length, hB]; kernel_rfl
  have HK : Hid (w.rangeAt 0 0 (cellsW KS)) := hK
  have HKl : Hid (KS.length = 64) := hKl
  clear hK hKl
  go_enter Tryd.func46, Tryd.ntmps46
  go_wp2_with (first
    | refine wpList_load_mid rfl 54 (.tmp 3) rfl (w.heap.size + 1) 0 rfl (cellsB B) _ (by exact World.rangeAt_alloc (range_new _ _ _ _ (by simp)) _) Tryd.underlying54 rfl hi54 ?_
    | fail)
  refine (sched_any B hB _).mono ?_
  rintro e w1 ⟨rfl, hb1⟩
  have hSl : (schedTo B 64).length = 64 := schedTo_length B 64
  generalize hS : schedTo B 64 = S at *
  have HS : Hid (schedTo B 64 = S) := hS
  have hi85 : (Tryd.prog.info? 85).map (·.size) = some (cellsW S).toArray.size := by rw [show (cellsW S).toArray.size = 64 from by simp [cellsW_length, hSl]]; kernel_rfl
  have hth : (w1.alloc (.cells (List.replicate 64 (.int .u32 0)).toArray 85)).there w1.heap.size 0 (cellsW S).toArray.size := by rw [show (cellsW S).toArray.size = 64 from by simp [cellsW_length, hSl]]; exact there_new _ _ _ _ _ rfl (by simp)
  have Hth : Hid ((w1.alloc (.cells (List.replicate 64 (.int .u32 0)).toArray 85)).there w1.heap.size 0 (cellsW S).toArray.size) := hth
  have Hb1 : Hid (Below _ _ _) := hb1
  clear hS hth hb1 hi54
  go_wp2_with (first
    | refine wpList_store_mid rfl 85 (.tmp 5) (.tmp 20) rfl w1.heap.size 0 (cellsW S).toArray rfl rfl Hth.out hi85 (all_oneCell_toArray (cellsW_one S)) ?_)
  refine wp_gen (fun M => MixW w M H KS S w1.heap.size) (mixW_make w w1 H KS S B 53 54 85 _ _ rfl rfl hSl hH HK.out h0 Hb1.out) ?_
  intro M hMM
  have HHm : Hid (MixW w M H KS S w1.heap.size) := hMM
  clear hMM hi85 Hth Hb1
  generalize w1.heap.size = c at HHm ⊢
  clear w1
  simp only [Act.put]
  obtain ⟨s0, hs0⟩ : ∃ s, s = St.of H := ⟨_, rfl⟩
  have x0 : M.cell? ⟨w.heap.size, 0, none⟩ = some (.int .u32 s0.a) := by rw [hs0]; exact rangeW0 HHm.out.hrow 0 (by omega)
  have x1 : M.cell? ⟨w.heap.size, 1, none⟩ = some (.int .u32 s0.b) := by rw [hs0]; exact rangeW0 HHm.out.hrow 1 (by omega)
  have x2 : M.cell? ⟨w.heap.size, 2, none⟩ = some (.int .u32 s0.c) := by rw [hs0]; exact rangeW0 HHm.out.hrow 2 (by omega)
  have x3 : M.cell? ⟨w.heap.size, 3, none⟩ = some (.int .u32 s0.d) := by rw [hs0]; exact rangeW0 HHm.out.hrow 3 (by omega)
  have x4 : M.cell? ⟨w.heap.size, 4, none⟩ = some (.int .u32 s0.e) := by rw [hs0]; exact rangeW0 HHm.out.hrow 4 (by omega)
  have x5 : M.cell? ⟨w.heap.size, 5, none⟩ = some (.int .u32 s0.f) := by rw [hs0]; exact rangeW0 HHm.out.hrow 5 (by omega)
  have x6 : M.cell? ⟨w.heap.size, 6, none⟩ = some (.int .u32 s0.g) := by rw [hs0]; exact rangeW0 HHm.out.hrow 6 (by omega)
  have x7 : M.cell? ⟨w.heap.size, 7, none⟩ = some (.int .u32 s0.h) := by rw [hs0]; exact rangeW0 HHm.out.hrow 7 (by omega)
  have HH : Hid (s0 = St.of H) := hs0
  have HhH : Hid (H.length = 8) := hH
  have HhS : Hid (S.length = 64) := hSl
  clear hs0 hH hSl hB
  go_quiet (fail)
  clear x0 x1 x2 x3 x4 x5 x6 x7
  go_wp2
  go_loopw [6, 7, 8, 9, 10, 11, 12, 13, 37] (fun a b c d e f g h i wr => ∃ (k n : Nat), k ≤ 64 ∧ i = .int .i64 k ∧ a = .int .u32 (rndsTo KS S H k).a ∧ b = .int .u32 (rndsTo KS S H k).b ∧ c = .int .u32 (rndsTo KS S H k).c ∧ d = .int .u32 (rndsTo KS S H k).d ∧
      e = .int .u32 (rndsTo KS S H k).e ∧ f = .int .u32 (rndsTo KS S H k).f ∧ g = .int .u32 (rndsTo KS S H k).g ∧ h = .int .u32 (rndsTo KS S H k).h ∧ wr = M.drewN n) (fun _ _ _ _ _ _ _ _ i _ => 64 - (intOf i).toNat)
  case atStart => exact ⟨0, _, by omega, rfl, by rw [HH.out]; rfl, by rw [HH.out]; rfl, by rw [HH.out]; rfl, by rw [HH.out]; rfl, by rw [HH.out]; rfl, by rw [HH.out]; rfl, by rw [HH.out]; rfl, by rw [HH.out]; rfl, rfl⟩
  case round =>
    obtain ⟨k, n, hk, rfl, rfl, rfl, rfl, rfl, rfl, rfl, rfl, rfl, rfl⟩ := hrel
    by_cases hlt : k < 64
    · generalize hs : rndsTo KS S H k = s
      have HR : Hid (rndsTo KS S H k = s) := hs
      clear hs
      have hlt' : (k : Int) < 64 := by omega
      have hk0 : (0 : Int) ≤ (k : Int) := by omega
      have y1 : M.cell? ⟨0, k, none⟩ = some (.int .u32 (KS.getD k 0)) := rangeW0 HHm.out.krow k (by rw [HKl.out]; omega)
      have y2 : M.cell? ⟨c, k, none⟩ = some (.int .u32 (S.getD k 0)) := rangeW0 HHm.out.srow k (by rw [HhS.out]; omega)
      generalize hkk : KS.getD k 0 = kk at y1
      generalize hww : S.getD k 0 = ww at y2
      have HKK : Hid (KS.getD k 0 = kk) := hkk
      have HWW : Hid (S.getD k 0 = ww) := hww
      clear hkk hww
      go_wp2_with fail
      go_quiet ((go_at_call 55; exact (turned_e _ _).mono (fun _ _ h => ⟨h.1, _, h.2⟩)))
      clear y1 y2
      go_wp2_with (go_at_call 55; refine (turned_a _ _).mono ?_; rintro e w' ⟨rfl, rfl⟩)
      go_roundw
      case rel => exact ⟨k + 1, _, by omega, by go_num, by rw [rndsTo, HR.out, HKK.out, HWW.out]; exact congrArg (Value.int .u32) (next_a s kk ww), by rw [rndsTo, HR.out, HKK.out, HWW.out]; rfl, by rw [rndsTo, HR.out, HKK.out, HWW.out]; rfl, by rw [rndsTo, HR.out, HKK.out, HWW.out]; rfl, by rw [rndsTo, HR.out, HKK.out, HWW.out]; exact congrArg (Value.int .u32) (next_e s kk ww), by rw [rndsTo, HR.out, HKK.out, HWW.out]; rfl, by rw [rndsTo, HR.out, HKK.out, HWW.out]; rfl, by rw [rndsTo, HR.out, HKK.out, HWW.out]; rfl, rfl⟩
      case measure => simp [intOf]; omega
    · have hk64 : k = 64 := by omega
      subst hk64
      clear hlt hk
      go_wp2
      generalize hG : rndsTo KS S H 64 = G
      have HG : Hid (rndsTo KS S H 64 = G) := hG
      clear hG
      have hgl : Value.agg #[Value.int .u32 G.a, Value.int .u32 G.b, Value.int .u32 G.c, Value.int .u32 G.d, Value.int .u32 G.e, Value.int .u32 G.f, Value.int .u32 G.g, Value.int .u32 G.h] = Value.agg (cellsW G.list).toArray := rfl
      go_loopw [97] (fun i wr => ∃ (k : Nat), k ≤ 8 ∧ i = .int .i64 k ∧ Below w.heap.size w wr ∧ wr.rangeAt w.heap.size 0 (cellsW (mixTo H G.list k)) ∧ wr.there w.heap.size 0 8 ∧ wr.there (w.heap.size + 1 + 1) 0 8) (fun i _ => 8 - (intOf i).toNat)
      case atStart => exact ⟨0, by omega, rfl, below_drewN HHm.out.below _, by rw [mixTo_start H _ HhH.out]; exact HHm.out.hrow, HHm.out.hthere, HHm.out.res⟩
      case round =>
        obtain ⟨k, hk, rfl, hb, hr, ht, hres⟩ := hrel
        by_cases hlt : k < 8
        · have hix := fun W => index_arr G.list rfl k hlt W
          rw [← hgl] at hix
          have hlt' : (k : Int) < 8 := by omega
          have hk0 : (0 : Int) ≤ (k : Int) := by omega
          have y0 : wr.cell? ⟨w.heap.size, k, none⟩ = some (.int .u32 (H.getD k 0)) := by have := hr k _ (mixTo_get H G.list k hlt); rwa [Nat.zero_add] at this
          have yf : wr.frozen? ⟨w.heap.size, k, none⟩ = false := by have := (ht k hlt).2; rwa [Nat.zero_add] at this
          clear hgl
          have Hr : Hid (wr.rangeAt w.heap.size 0 (cellsW (mixTo H G.list k))) := hr
          have Ht : Hid (wr.there w.heap.size 0 8) := ht
          have Hres : Hid (wr.there (w.heap.size + 1 + 1) 0 8) := hres
          clear hr ht hres
          go_wp2
          go_roundw
          case rel => exact ⟨k + 1, by omega, by go_num, hb.setCell (Nat.le_refl _) _, by rw [← mixTo_set H G.list k _ (by rw [IntKind.wrap_u32, List.getD_eq_getElem?_getD, List.getD_eq_getElem?_getD])]; exact range_set Hr.out _, there_set Ht.out _ _ _, there_set Hres.out _ _ _⟩
          case measure => simp [intOf]; omega
        · have hk8 : k = 8 := by omega
          subst hk8
          clear hlt hk hgl
          have hml : (mixTo H G.list 8).length = 8 := mixTo_length _ _ _
          have HL : Hid (mixF KS H B = mixTo H G.list 8) := by show mixF KS H B = _; rw [mixF, grownF, HS.out, HG.out]
          generalize mixTo H G.list 8 = L at *
          have hi53 : (Tryd.prog.info? 53).map (·.size) = some (cellsW L).length := by rw [cellsW_length, hml]; kernel_rfl
          have Hi53 : Hid ((Tryd.prog.info? 53).map (·.size) = some (cellsW L).toArray.size) := by show _ = some (cellsW L).toArray.size; rw [List.size_toArray]; exact hi53
          have Hr : Hid (wr.rangeAt w.heap.size 0 (cellsW L)) := hr
          have Hres' : Hid (wr.there (w.heap.size + 1 + 1) 0 (cellsW L).length) := by show wr.there _ _ _; rw [cellsW_length, hml]; exact hres
          have Hres : Hid (wr.there (w.heap.size + 1 + 1) 0 (cellsW L).toArray.size) := by show wr.there _ _ (cellsW L).toArray.size; rw [List.size_toArray]; exact Hres'.out
          clear hr ht hres
          go_wp2_with (first
            | refine wpList_load_mid rfl 53 (.tmp 2) rfl w.heap.size 0 rfl (cellsW L) _ Hr.out Tryd.underlying53 rfl hi53 ?_
            | refine wpList_store_mid rfl 53 (.tmp 4) (.tmp 108) rfl (w.heap.size + 1 + 1) 0 (cellsW L).toArray rfl rfl Hres.out Hi53.out (all_oneCell_toArray (cellsW_one L)) ?_)
          exact bodyPost_ret (v := .agg (cellsW L).toArray) (results_cell_mid (p := 4) (ty := 53) (by kernel_rfl) _ _ (w.heap.size + 1 + 1) 0 (cellsW L) _ rfl (World.rangeAt_setCells_same _ _ _ _ Hres'.out) Tryd.underlying53 rfl hi53) rfl ⟨by rw [HL.out], below_setCells (by omega) _ _ _ _ hb⟩

end Go.Proofs.YtkmoglhgkcnalaaDoor
