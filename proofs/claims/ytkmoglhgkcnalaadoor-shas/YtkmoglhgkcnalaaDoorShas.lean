/- Shas: the walk. -/
import Derived.Test.YtkmoglhgkcnalaaDoorMade
namespace Go.Proofs.YtkmoglhgkcnalaaDoor
open Go.RowKit

/-- the constants' box and rows -/
structure ShasW (w M : World) (cb hb ch kb ck : Nat) : Prop where
  below : Below w.heap.size w M
  c0 : M.cell? ⟨cb, 0, none⟩ = some (.slice (some ⟨hb, 0, none⟩) 8 ch)
  c1 : M.cell? ⟨cb, 1, none⟩ = some (.slice (some ⟨kb, 0, none⟩) 64 ck)
  clt : cb < M.heap.size
  hrow : M.rangeAt hb 0 (cellsI H0)
  hlt : hb < M.heap.size
  krow : M.rangeAt kb 0 (cellsI KSc)
  klt : kb < M.heap.size
theorem ShasW.calm {w M M' : World} {cb hb ch kb ck : Nat} (h : ShasW w M cb hb ch kb ck) (hb' : Below M.heap.size M M') : ShasW w M' cb hb ch kb ck := by
  have hs := hb'.size
  have h1 := h.clt
  have h2 := h.hlt
  have h3 := h.klt
  exact ⟨h.below.trans (hb'.mono h.below.size), by rw [hb'.cell (p := ⟨cb, 0, none⟩) h1]; exact h.c0, by rw [hb'.cell (p := ⟨cb, 1, none⟩) h1]; exact h.c1, by omega, range_below hb' h2 h.hrow, by omega, range_below hb' h3 h.krow, by omega⟩

set_option maxRecDepth 100000 in
set_option maxHeartbeats 1000000 in
theorem shas_any (s : ByteArray) (w : World) (hs : s.size ≤ 140737488355328) (hK : w.rangeAt 0 0 (cellsW KSc)) (h0 : 0 < w.heap.size) :
    Calls Tryd.prog 3 #[.string s] w fun e w' => e = .returned (.bool true) ∧ Below w.heap.size w w' := by
  have HK : Hid (w.rangeAt 0 0 (cellsW KSc)) := hK
  clear hK
  go_enter Tryd.func3, Tryd.ntmps3
  go_wp2_with fail
  refine (refKnown_any _).mono ?_
  rintro e w1 ⟨rfl, hb1, hr1, hr2, hs1⟩
  have Hb1 : Hid _ := hb1
  have Hr1 : Hid _ := hr1
  have Hr2 : Hid _ := hr2
  clear hb1 hr1 hr2
  by_cases he : s.size = 0
  · have heb : ((s.size : Int) == 0) = true := by rw [he]; rfl
    have HE : Hid (s.size = 0) := he
    clear he
    go_wp2_with fail
    refine (made_any _).mono ?_
    rintro e w2 ⟨hb, ch, kb, ck, rfl, hb2, hrh, hhb, hrk, hkb, hge, hke⟩
    have hs2 := hb2.size
    simp only [World.size_alloc] at hs2 hge hke
    have hth : w2.there (w.heap.size + 1 + 1 + 1) 0 2 := there_below hb2 (by simp only [World.size_alloc]; omega) (there_new _ _ _ _ _ hs1.symm rfl)
    have Hth : Hid (w2.there (w.heap.size + 1 + 1 + 1) 0 ([Value.slice (some ⟨hb, 0, none⟩) 8 ch, Value.slice (some ⟨kb, 0, none⟩) 64 ck].toArray).size) := hth
    have HB2 : Hid (Below w.heap.size w w2) := (Hb1.out.alloc (by omega) _).trans (hb2.mono (by simp only [World.size_alloc]; omega))
    have Hrh : Hid _ := hrh
    have Hrk : Hid _ := hrk
    clear hb2 hth hrh hrk Hb1 Hr1 Hr2
    go_wp2_with (refine wpList_store_mid (by rfl) 24 (.tmp 3) (.tmp 10) (by rfl) (w.heap.size + 1 + 1 + 1) 0 [Value.slice (some ⟨hb, 0, none⟩) 8 ch, Value.slice (some ⟨kb, 0, none⟩) 64 ck].toArray (by rfl) (by rfl) (by exact Hth.out) (by kernel_rfl) (by kernel_rfl) ?_)
    have HS : Hid (ShasW w (w2.setCells (w.heap.size + 1 + 1 + 1) 0 [Value.slice (some ⟨hb, 0, none⟩) 8 ch, Value.slice (some ⟨kb, 0, none⟩) 64 ck]) (w.heap.size + 1 + 1 + 1) hb ch kb ck) :=
      ⟨below_setCells (by omega) _ _ _ _ HB2.out, World.rangeAt_setCells_same _ _ _ _ Hth.out 0 _ rfl, World.rangeAt_setCells_same _ _ _ _ Hth.out 1 _ rfl, by rw [size_setCells]; omega, World.rangeAt_setCells_apart Hrh.out _ _ _ (Or.inl (by omega)), by rw [size_setCells]; omega, World.rangeAt_setCells_apart Hrk.out _ _ _ (Or.inl (by omega)), by rw [size_setCells]; omega⟩
    clear HB2 Hth Hrh Hrk
    refine (sha_any KSc s _ (range_below HS.out.below h0 HK.out) KSc_length (by omega)).mono ?_
    rintro e w5 ⟨rfl, hb5⟩
    have HS5 : Hid _ := HS.out.calm hb5
    have c0 := HS5.out.c0
    have c1 := HS5.out.c1
    clear hb5 HS
    go_wp2_with fail
    refine (refSha_any KSc s _ _ _ _ w5 KSc_length wds_KSc HS5.out.hrow HS5.out.hlt HS5.out.krow HS5.out.klt hs).mono ?_
    rintro e w6 ⟨rfl, hb6⟩
    have HB6 : Hid (Below w.heap.size w w6) := HS5.out.below.trans (hb6.mono HS5.out.below.size)
    clear hb6 c0 c1
    go_wp2
    go_ret
    exact ⟨rfl, HB6.out⟩
  · have heb : ((s.size : Int) == 0) = false := by rw [beq_eq_false_iff_ne]; omega
    go_wp2_with fail
    have HS : Hid (ShasW w (w1.alloc (.cells #[.slice (some ⟨w.heap.size + 1, 0, none⟩) 8 8, .slice (some ⟨w.heap.size + 1 + 1, 0, none⟩) 64 64] 24)) (w.heap.size + 1 + 1 + 1) (w.heap.size + 1) 8 (w.heap.size + 1 + 1) 64) :=
      ⟨Hb1.out.alloc (by omega) _, by rw [World.cell?_alloc_at _ _ _ _ hs1.symm]; rfl, by rw [World.cell?_alloc_at _ _ _ _ hs1.symm]; rfl, by rw [World.size_alloc]; omega, World.rangeAt_alloc Hr1.out _, by rw [World.size_alloc]; omega, World.rangeAt_alloc Hr2.out _, by rw [World.size_alloc]; omega⟩
    clear Hb1 Hr1 Hr2
    refine (sha_any KSc s _ (range_below HS.out.below h0 HK.out) KSc_length (by omega)).mono ?_
    rintro e w5 ⟨rfl, hb5⟩
    have HS5 : Hid _ := HS.out.calm hb5
    have c0 := HS5.out.c0
    have c1 := HS5.out.c1
    clear hb5 HS
    go_wp2_with fail
    refine (refSha_any KSc s _ _ _ _ w5 KSc_length wds_KSc HS5.out.hrow HS5.out.hlt HS5.out.krow HS5.out.klt hs).mono ?_
    rintro e w6 ⟨rfl, hb6⟩
    have HB6 : Hid (Below w.heap.size w w6) := HS5.out.below.trans (hb6.mono HS5.out.below.size)
    clear hb6 c0 c1
    go_wp2
    go_ret
    exact ⟨rfl, HB6.out⟩

end Go.Proofs.YtkmoglhgkcnalaaDoor
