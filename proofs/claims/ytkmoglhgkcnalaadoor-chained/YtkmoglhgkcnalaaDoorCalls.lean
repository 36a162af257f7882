import Derived.Test.YtkmoglhgkcnalaaDoorHash
namespace Go.Proofs.YtkmoglhgkcnalaaDoor
open Go.RowKit

theorem catF_one (s : ByteArray) : catF [s] 1 = s.data.toList := by simp [catF]

set_option maxRecDepth 100000 in
set_option maxHeartbeats 400000 in
theorem sha_any (KS : List Int) (s : ByteArray) (w : World) (hK : w.rangeAt 0 0 (cellsW KS)) (hKl : KS.length = 64) (hlen : s.size ≤ 576460752303423488) :
    Calls Tryd.prog 10 #[.string s] w fun e w' => e = .returned (.string ⟨(shaF KS s.data.toList).toArray⟩) ∧ Below w.heap.size w w' := by
  have hl : (catF [s] [s].length).length ≤ 576460752303423488 := by
    show (catF [s] 1).length ≤ _
    rw [catF_one, Array.length_toList]; exact hlen
  have hof := of_any KS [s] 1 (w.alloc (.cells #[.string s] 9)) w.heap.size (by simp) (fun k h => by
    have hk : k = 0 := by simpa using h
    subst hk
    rw [World.cell?_alloc_at _ _ _ _ rfl]; rfl) (World.rangeAt_alloc hK _) hKl hl (by simp)
  have Hof : Hid (Calls _ _ _ _ _) := hof
  clear hof hK hl
  go_enter Tryd.func10, Tryd.ntmps10
  go_wp2_with fail
  refine Hof.out.mono ?_
  rintro e w1 ⟨rfl, hb1⟩
  go_wp2
  go_ret
  exact ⟨by show Ending.returned (.string ⟨(shaF KS (catF [s] 1)).toArray⟩) = _; rw [catF_one], ((Below.refl _ _).alloc (Nat.le_refl _) _).trans (hb1.mono (by simp))⟩

theorem pick_neg (x n : Int) (hn : 0 < n) (hx : x < 0) : 0 ≤ -((x + 1).tmod n) ∧ -((x + 1).tmod n) < n := by
  rw [← Int.neg_tmod, Int.tmod_eq_emod_of_nonneg (by omega)]
  exact ⟨Int.emod_nonneg _ (by omega), Int.emod_lt_of_pos _ hn⟩
set_option maxHeartbeats 400000 in
theorem pick_any (x n : Int) (w : World) (hn : 0 < n) (hx1 : -9223372036854775808 ≤ x) (hx2 : x ≤ 9223372036854775807) :
    Calls Tryd.prog 23 #[.int .i64 x, .int .i64 n] w fun e w' => (∃ v : Int, e = .returned (.int .i64 v) ∧ 0 ≤ v ∧ v < n) ∧ w' = w := by
  go_enter Tryd.func23, Tryd.ntmps23
  go_wp2
  · go_ret
    exact ⟨⟨_, rfl, pick_neg x n hn ‹_›⟩, rfl⟩
  · go_ret
    exact ⟨⟨_, rfl, Int.emod_nonneg _ (by omega), Int.emod_lt_of_pos _ hn⟩, rfl⟩

set_option maxRecDepth 100000 in
set_option maxHeartbeats 400000 in
theorem newHash_any (KS : List Int) (w : World) :
    Calls Tryd.prog 12 #[] w fun e w' => ∃ b, e = .returned (.pointer (some ⟨b, 0, none⟩)) ∧ w.heap.size ≤ b ∧ b < w'.heap.size ∧ Below w.heap.size w w' ∧ DigM w' b KS [] (List.replicate 64 0) 0 := by
  go_enter Tryd.func12, Tryd.ntmps12
  go_wp2_with (first
    | (go_at_call 29; refine (new_any _).mono ?_; rintro e w1 ⟨rfl, hb1⟩)
    | refine wpList_buildTo rfl 60 #[(0, .tmp 1)] rfl (some 2) rfl newC.toArray (by kernel_rfl) ?_)
  go_ret
  refine ⟨_, rfl, hb1.size, by simp, hb1.alloc hb1.size _, ?_⟩
  exact DigM.of_range (range_new _ _ _ _ rfl) (there_new _ _ _ _ _ rfl (by rw [List.size_toArray, newC_length])) (by simp) (by simp)

set_option maxRecDepth 100000 in
set_option maxHeartbeats 400000 in
theorem hashWrite_any (KS : List Int) (L blk : List UInt8) (s : ByteArray) (w : World) (b : Nat) (hD : DigM w b KS L blk L.length) (hK : w.rangeAt 0 0 (cellsW KS)) (hKl : KS.length = 64) (hb0 : 0 < b) (hb : b < w.heap.size)
    (hlen : L.length + s.size ≤ 4611686018427387904) :
    Calls Tryd.prog 13 #[.pointer (some ⟨b, 0, none⟩), .string s] w fun e w' => e = .returned (.tuple #[]) ∧ w.grownBy w' (some b) ∧ ∃ blk', DigM w' b KS (L ++ s.data.toList) blk' (L.length + s.size) := by
  have Hw : Hid (Calls _ _ _ _ _) := write_any KS L blk s w b hD hK hKl hb0 hb hlen
  clear hD hK hlen
  go_enter Tryd.func13, Tryd.ntmps13
  go_wp2_with fail
  refine Hw.out.mono ?_
  rintro e w1 ⟨rfl, hq⟩
  have Hq : Hid _ := hq
  clear hq
  go_wp2
  go_end0
  exact ⟨rfl, Hq.out⟩

set_option maxRecDepth 100000 in
set_option maxHeartbeats 400000 in
theorem hashSum_any (KS : List Int) (L blk : List UInt8) (w : World) (b : Nat) (hD : DigM w b KS L blk L.length) (hK : w.rangeAt 0 0 (cellsW KS)) (hKl : KS.length = 64) (h0 : 0 < w.heap.size) (hlen : L.length ≤ 576460752303423488) :
    Calls Tryd.prog 14 #[.pointer (some ⟨b, 0, none⟩)] w fun e w' => e = .returned (.string ⟨(shaF KS L).toArray⟩) ∧ Below w.heap.size w w' := by
  have hdl := digC_length KS L blk L.length (L.length / 64) hD.len
  have hi57 : (Tryd.prog.info? 57).map (·.size) = some (digC (foldTo KS L (L.length / 64)) blk L.length).length := by rw [hdl]; exact Tryd.size57
  have Hwh : Hid (w.rangeAt b 0 (digC (foldTo KS L (L.length / 64)) blk L.length)) := hD.whole
  have hsum := sum_any KS L blk w hD.len hD.tail hK hKl h0 hlen
  generalize digC (foldTo KS L (L.length / 64)) blk L.length = DC at *
  have Hsum : Hid (Calls _ _ _ _ _) := hsum
  have Hi57 : Hid ((Tryd.prog.info? 57).map (·.size) = some DC.length) := hi57
  clear hsum hdl hi57 hD hK hlen
  go_enter Tryd.func14, Tryd.ntmps14
  go_wp2_with (refine wpList_load_mid rfl 57 (.tmp 5) rfl b 0 rfl DC _ Hwh.out Tryd.underlying57 rfl Hi57.out ?_)
  refine Hsum.out.mono ?_
  rintro e w5 ⟨rfl, hb5⟩
  go_wp2
  go_ret
  exact ⟨rfl, hb5⟩

end Go.Proofs.YtkmoglhgkcnalaaDoor
