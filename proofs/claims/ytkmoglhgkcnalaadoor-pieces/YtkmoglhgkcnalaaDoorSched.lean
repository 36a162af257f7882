import Derived.Test.YtkmoglhgkcnalaaDoorWords
import Derived.Deep.RegionHeld3
namespace Go.Proofs.YtkmoglhgkcnalaaDoor
open Go.RowKit

theorem sched_start (B : List UInt8) : cellsW (schedC B 0) = List.replicate 64 (.int .u32 0) := by
  simp [schedC, schedTo, cellsW]

theorem W0_facts (w : World) (B : List UInt8) (c : Array Value) (hc : c.size = 64) : ((w.alloc (.cells (cellsB B).toArray 54)).alloc (.cells c 85)).heap.size = w.heap.size + 1 + 1 ∧
    ((w.alloc (.cells (cellsB B).toArray 54)).alloc (.cells c 85)).rangeAt w.heap.size 0 (cellsB B) ∧
    ((w.alloc (.cells (cellsB B).toArray 54)).alloc (.cells c 85)).there (w.heap.size + 1) 0 64 ∧
    Below w.heap.size w ((w.alloc (.cells (cellsB B).toArray 54)).alloc (.cells c 85)) := by
  refine ⟨by simp, World.rangeAt_alloc (fun j v hv => ?_) _, fun j hj => ⟨?_, ?_⟩, ((Below.refl _ _).alloc (Nat.le_refl _) _).alloc (by simp) _⟩
  · rw [World.cell?_alloc_at _ _ _ _ rfl]; simpa using hv
  · rw [World.cell?_alloc_at _ _ _ _ (by simp)]; simp [hc, hj]
  · rw [World.frozen?_alloc_at _ _ _ _ (by simp)]

theorem slice_word (b k : Nat) (hk : k < 16) (W : World) : (Instr.sliceAt 54 (.pointer (some ⟨b, 0, none⟩)) (some (.int .i64 (4 * (k : Int)))) (some (.int .i64 (4 * (k : Int) + 4))) none).run Tryd.prog W =
    .ok (.slice (some ⟨b, 4 * k, none⟩) 4 (64 - 4 * k)) W := by
  have hu : Tryd.prog.underlying 54 = some (.array (Tryd.prog.arrayLen 54) (Tryd.prog.elem 54)) := by kernel_rfl
  have hl : Tryd.prog.arrayLen 54 = 64 := by kernel_rfl
  have he : Tryd.prog.elem 54 = 5 := by kernel_rfl
  have hs : (sizeOf 5).run Tryd.prog W = .ok 1 W := by kernel_rfl
  rw [run_sliceAt_array_lh W 54 _ hu _ _ _ _ (by omega) (by omega) (by rw [hl]; omega), hl, he, hs]
  have e1 : (4 * (k : Int)).toNat = 4 * k := by omega
  have e2 : (4 * (k : Int) + 4).toNat = 4 * k + 4 := by omega
  have e3 : 4 * k + 4 - 4 * k = 4 := by omega
  simp only [Result.andThen_ok, slicedAt]
  rw [e1, e2, e3, if_neg (by omega), Addr.add_mid, Nat.mul_one, Nat.zero_add]

theorem conv_word (B : List UInt8) (hB : B.length = 64) (b k c : Nat) (hk : k < 16) (W : World) (hr : W.rangeAt b 0 (cellsB B)) :
    (convert 51 9 (.slice (some ⟨b, 4 * k, none⟩) 4 c)).run Tryd.prog W = .ok (.string ⟨((B.drop (4 * k)).take 4).toArray⟩) W := by
  have hl : ((B.drop (4 * k)).take 4).length = 4 := by simp; omega
  have hcv := run_convert_bytes_back (P := Tryd.prog) W 51 9 5 ⟨b, 4 * k, none⟩ c ((B.drop (4 * k)).take 4) Tryd.underlying51 Tryd.underlying5 Tryd.underlying9
    (fun j hj => by
      rw [hl] at hj
      rw [Addr.add_mid]
      have := hr (4 * k + j) (.int .u8 ((B[4 * k + j]'(by omega)).toNat : Int)) (by simp [cellsB]; exact ⟨_, List.getElem?_eq_getElem (by omega), rfl⟩)
      rw [Nat.zero_add] at this
      rw [this]
      simp)
  rwa [hl] at hcv

theorem M_cell {M W0 : World} {L : List Value} {n b j : Nat} {v : Value} (hM : M = (W0.alloc (.cells L.toArray 85)).drewN n) (hb : W0.heap.size = b) (h : L[j]? = some v) : M.cell? ⟨b, j, none⟩ = some v := by
  subst hM; simp only [World.cell?_drewN]; rw [World.cell?_alloc_at _ _ _ _ hb.symm]; simpa using h
theorem M_frozen {M W0 : World} {L : List Value} {n b : Nat} (hM : M = (W0.alloc (.cells L.toArray 85)).drewN n) (hb : W0.heap.size = b) (j : Nat) : M.frozen? ⟨b, j, none⟩ = false := by
  subst hM; simp only [World.frozen?_drewN]; rw [World.frozen?_alloc_at _ _ _ _ hb.symm]

theorem M_set {M W0 : World} {L : List Value} {n b : Nat} (hM : M = (W0.alloc (.cells L.toArray 85)).drewN n) (hb : W0.heap.size = b) (a j : Nat) (v : Value) : (M.drewN a).setCell ⟨b, j, none⟩ v = (W0.alloc (.cells (L.set j v).toArray 85)).drewN (n + a) := by
  subst hM
  rw [World.drewN_drewN]
  show ((W0.alloc (.cells L.toArray 85)).setCell ⟨b, j, none⟩ v).drewN (n + a) = _
  rw [World.setCell_alloc_at _ _ _ _ _ hb.symm]
  simp

set_option maxHeartbeats 1000000 in
theorem sched_any (B : List UInt8) (hB : B.length = 64) (w : World) :
    Calls Tryd.prog 54 #[.agg (cellsB B).toArray] w fun e w' => e = .returned (.agg (cellsW (schedTo B 64)).toArray) ∧ Below w.heap.size w w' := by
  go_enter Tryd.func54, Tryd.ntmps54
  go_wp2
  go_loopw [4, 6] (fun _ i wr => ∃ (k : Nat) (W0 : World), k ≤ 16 ∧ i = .int .i64 k ∧ W0.heap.size = w.heap.size + 1 + 1 ∧ W0.rangeAt w.heap.size 0 (cellsB B) ∧ W0.there (w.heap.size + 1) 0 64 ∧ Below w.heap.size w W0 ∧
      wr = W0.alloc (.cells (cellsW (schedC B k)).toArray 85)) (fun _ i _ => 16 - (intOf i).toNat)
  case atStart =>
    have hf := W0_facts w B (List.replicate 64 (.int .u32 0)).toArray (by simp)
    exact ⟨0, _, by omega, rfl, hf.1, hf.2.1, hf.2.2.1, hf.2.2.2, by rw [sched_start]; rfl⟩
  case round =>
    obtain ⟨k, W0, hk, rfl, hsz, hrg, hth, hbl, rfl⟩ := hrel
    by_cases hlt : k < 16
    · have hsl := slice_word w.heap.size k hlt
      have hcv := fun c => conv_word B hB w.heap.size k c hlt (W0.alloc (.cells (cellsW (schedC B k)).toArray 85)) (World.rangeAt_alloc hrg _)
      have hg := schedC_some B k (by omega)
      have hln := schedC_length B k (by omega)
      have hlc : (cellsW (schedC B k)).length = 64 := by rw [cellsW_length, hln]
      have h8 : (ByteArray.mk ((B.drop (4 * k)).take 4).toArray).size ≤ 8 := by show ((B.drop (4 * k)).take 4).toArray.size ≤ 8; simp; omega
      go_wp2_with (go_at_call 63; refine (number_any _ _ h8).mono ?_; rintro e w' ⟨rfl, rfl⟩)
      go_roundw
      case rel => exact ⟨k + 1, W0, by omega, by go_num, hsz, hrg, hth, hbl, by rw [schedC_set B k (by omega) _ (by rw [if_pos hlt, wordF, IntKind.wrap_u32])]⟩
      case measure => simp [intOf]; omega
    · have hk16 : k = 16 := by omega
      subst hk16
      clear hlt hk
      go_wp2
      go_loopw [5] (fun i wr => ∃ (k n : Nat), 16 ≤ k ∧ k ≤ 64 ∧ i = .int .i64 k ∧
        wr = (W0.alloc (.cells (cellsW (schedC B k)).toArray 85)).drewN n) (fun i _ => 64 - (intOf i).toNat)
      case atStart => exact ⟨16, 0, by omega, by omega, rfl, rfl⟩
      case round =>
        obtain ⟨k, n, hk16, hk, rfl, rfl⟩ := hrel
        by_cases hlt : k < 64
        · obtain ⟨m, rfl⟩ : ∃ m, k = m + 16 := ⟨k - 16, by omega⟩
          rw [show ((m + 16 : Nat) : Int) = (m : Int) + 16 from by omega]
          go_wp2_with fail
          obtain ⟨M, hM⟩ : ∃ M, M = (W0.alloc (.cells (cellsW (schedC B (m + 16))).toArray 85)).drewN n := ⟨_, rfl⟩
          have f0 := M_cell hM hsz (schedC_get B (m + 16) m (by omega))
          have f1 := M_cell hM hsz (schedC_get B (m + 16) (m + 1) (by omega))
          have f9 := M_cell hM hsz (schedC_get B (m + 16) (m + 9) (by omega))
          have f14 := M_cell hM hsz (schedC_get B (m + 16) (m + 14) (by omega))
          have f16 := M_cell hM hsz (schedC_some B (m + 16) (by omega))
          have g16 := M_frozen hM hsz (m + 16)
          generalize hx0 : (schedTo B (m + 16)).getD m 0 = x0 at f0
          have X0 : Hid ((schedTo B (m + 16)).getD m 0 = x0) := hx0
          clear hx0
          generalize hx1 : (schedTo B (m + 16)).getD (m + 1) 0 = x1 at f1
          have X1 : Hid ((schedTo B (m + 16)).getD (m + 1) 0 = x1) := hx1
          clear hx1
          generalize hx9 : (schedTo B (m + 16)).getD (m + 9) 0 = x9 at f9
          have X9 : Hid ((schedTo B (m + 16)).getD (m + 9) 0 = x9) := hx9
          clear hx9
          generalize hx14 : (schedTo B (m + 16)).getD (m + 14) 0 = x14 at f14
          have X14 : Hid ((schedTo B (m + 16)).getD (m + 14) 0 = x14) := hx14
          clear hx14
          rw [← hM]
          have HM : Hid (M = (W0.alloc (.cells (cellsW (schedC B (m + 16))).toArray 85)).drewN n) := hM
          clear hM
          have b0 : (m : Int) < 64 := by omega
          have b1 : (m : Int) + 1 < 64 := by omega
          have b9 : (m : Int) + 9 < 64 := by omega
          have b14 : (m : Int) + 14 < 64 := by omega
          have b16 : (m : Int) + 16 < 64 := by omega
          have z0 : 0 ≤ (m : Int) := by omega
          have v0 : IntKind.i64.wrap (m : Int) = m := by rw [IntKind.wrap_i64]; omega
          have v1 : IntKind.i64.wrap ((m : Int) + 16 - 15) = m + 1 := by rw [IntKind.wrap_i64]; omega
          have v9 : IntKind.i64.wrap ((m : Int) + 16 - 7) = m + 9 := by rw [IntKind.wrap_i64]; omega
          have v14 : IntKind.i64.wrap ((m : Int) + 16 - 2) = m + 14 := by rw [IntKind.wrap_i64]; omega
          have p1 : 0 ≤ (m : Int) + 1 := by omega
          have p9 : 0 ≤ (m : Int) + 9 := by omega
          have p14 : 0 ≤ (m : Int) + 14 := by omega
          have p16 : 0 ≤ (m : Int) + 16 := by omega
          have t1 : ((m : Int) + 1).toNat = m + 1 := by omega
          have t9 : ((m : Int) + 9).toNat = m + 9 := by omega
          have t14 : ((m : Int) + 14).toNat = m + 14 := by omega
          have t16 : ((m : Int) + 16).toNat = m + 16 := by omega
          go_region_held3 (fun w' => w'.cell? ⟨w.heap.size + 1 + 1, m, none⟩ = some (.int .u32 x0) ∧ w'.cell? ⟨w.heap.size + 1 + 1, m + 1, none⟩ = some (.int .u32 x1) ∧ w'.cell? ⟨w.heap.size + 1 + 1, m + 9, none⟩ = some (.int .u32 x9) ∧ w'.cell? ⟨w.heap.size + 1 + 1, m + 14, none⟩ = some (.int .u32 x14)) (first | go_keep | (refine ⟨?_, ?_, ?_, ?_⟩ <;> (rw [World.cell?_setCell_other _ _ _ _ (by simp)]; simp only [World.cell?_drewN, f0, f1, f9, f14])))
            (first | (go_at_call 70; refine (shifted_any _ _ _ _ _ (by omega) (by omega) (by omega) (by omega) (by omega) (by omega)).mono ?_; rintro e w' ⟨rfl, nq, rfl⟩))
          all_goals
            clear f0 f1 f9 f14 f16 g16 b0 b1 b9 b14 v0 v1 v9 v14 p1 p9 p14 p16 t1 t9 t14 t16
            go_wp2
            go_roundw
            case rel => ((repeat apply Exists.intro); exact ⟨⟨m + 17, _, by omega, by omega, by go_num, (M_set HM.out hsz _ _ _).trans (by rw [schedC_set B (m + 16) (by omega) _ (by rw [if_neg (by omega), nextF_at, X0.out, X1.out, X9.out, X14.out, IntKind.wrap_u32, IntKind.wrap_u32, IntKind.wrap_u32])])⟩, rfl⟩)
            case measure => simp [intOf]; omega
        · have hk64 : k = 64 := by omega
          subst hk64
          clear hlt hk hk16
          obtain ⟨M, hM⟩ : ∃ M, M = (W0.alloc (.cells (cellsW (schedC B 64)).toArray 85)).drewN n := ⟨_, rfl⟩
          have hr : M.rangeAt (w.heap.size + 1 + 1) 0 (cellsW (schedC B 64)) := fun j v hv => by rw [Nat.zero_add]; exact M_cell hM hsz hv
          have ht : M.there (w.heap.size + 1) 0 64 := by rw [hM]; exact World.there_alloc hth _
          have hb : Below w.heap.size w M := by rw [hM]; exact below_drewN (hbl.alloc (by omega) _) n
          rw [← hM]
          rw [schedC_full] at hr
          clear hM hsz hrg hth hbl
          have hl : (cellsW (schedTo B 64)).length = 64 := by rw [cellsW_length, schedTo_length]
          generalize hL : cellsW (schedTo B 64) = L at *
          have HL : Hid (cellsW (schedTo B 64) = L) := hL
          have hone : ∀ v ∈ L, v.oneCell' = true := by rw [← hL]; exact cellsW_one _
          clear hL
          have hi : (Tryd.prog.info? 85).map (·.size) = some L.length := by rw [hl]; kernel_rfl
          have Hhr : Hid (M.rangeAt (w.heap.size + 1 + 1) 0 L) := hr
          have hls : L.toArray.size = 64 := by simp [hl]
          have Hht : Hid (M.there (w.heap.size + 1) 0 L.toArray.size) := by rw [hls]; exact ht
          have Hht' : Hid (M.there (w.heap.size + 1) 0 L.length) := by rw [hl]; exact ht
          clear hls
          have Hi2 : Hid ((Tryd.prog.info? 85).map (·.size) = some L.toArray.size) := by rw [List.size_toArray]; exact hi
          have Hon : Hid (L.toArray.all (·.oneCell') = true) := all_oneCell_toArray hone
          clear hr ht hone
          go_wp2_with (first
            | refine wpList_load_mid rfl 85 (.tmp 3) rfl (w.heap.size + 1 + 1) 0 rfl L _ Hhr.out Tryd.underlying85 rfl hi ?_
            | refine wpList_store_mid rfl 85 (.tmp 2) (.tmp 48) rfl (w.heap.size + 1) 0 L.toArray rfl rfl Hht.out Hi2.out Hon.out ?_)
          exact bodyPost_ret (v := .agg L.toArray) (results_cell_mid (p := 2) (ty := 85) (by kernel_rfl) _ _ (w.heap.size + 1) 0 L _ rfl (World.rangeAt_setCells_same _ _ _ _ Hht'.out) Tryd.underlying85 rfl hi) rfl ⟨ret_agg HL.out.symm, below_setCells (by omega) _ _ _ _ hb⟩

end Go.Proofs.YtkmoglhgkcnalaaDoor
