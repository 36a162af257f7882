/- The reference's numbers of many limbs: limbs, shifted, above. -/
import Derived.Test.YtkmoglhgkcnalaaDoorRefSha
import Derived.Test.YtkmoglhgkcnalaaDoorMadeMath
import Derived.Laws.AppendOwn
import Derived.Laws.OwnMore
import Derived.RangeFuncBox
import Derived.Maps.AppendAt
import Derived.Deep.CutRange
import Derived.Deep.DeepCutAuto
namespace Go.Proofs.YtkmoglhgkcnalaaDoor
open Go.RowKit

theorem Tryd.infoI : (Tryd.prog.info? 3).map (fun i => (i.zero, i.size, i.bytes)) = some (some (.int .i64 0), 1, 8) := by kernel_rfl

/-- a slice of integers of the call's own -/
def OwnI (B : Nat) (w : World) (v : Value) (l : List Int) : Prop := w.ownsRow B 3 1 v l.length (cellsI l)
theorem OwnI.row {B : Nat} {w : World} {v : Value} {l : List Int} (h : OwnI B w v l) (hl : 0 < l.length) : ∃ g cap, v = .slice (some ⟨g, 0, none⟩) l.length cap ∧ B ≤ g ∧ g < w.heap.size ∧ w.rangeAt g 0 (cellsI l) ∧ w.there g 0 l.length := by
  obtain ⟨h1, h2⟩ := h
  rcases h2 with ⟨_, h3⟩ | ⟨g, cap, cur, rfl, hB, hh, hc1, hc2, hsz, htk⟩
  · omega
  · have h : w.ownsRow B 3 1 (.slice (some ⟨g, 0, none⟩) l.length cap) l.length (cellsI l) := ⟨h1, .inr ⟨g, cap, cur, rfl, hB, hh, hc1, hc2, hsz, htk⟩⟩
    have hr : w.rangeAt g 0 (cellsI l) := fun j v hv => by
      have hj : j < l.length := by have := (List.getElem?_eq_some_iff.1 hv).1; rwa [cellsI_length] at this
      rw [Nat.zero_add, h.cellAt j (by omega)]; exact hv
    refine ⟨g, cap, rfl, hB, (Array.getElem?_eq_some_iff.1 hh).1, hr, fun j hj => ⟨?_, by rw [Nat.zero_add]; exact h.frozenAt j⟩⟩
    rw [hr j _ (getI l j hj)]; rfl

set_option maxRecDepth 100000 in
set_option maxHeartbeats 400000 in
theorem limbs_any (n : Int) (w : World) (h0 : 0 ≤ n) (h1 : n < 9223372036854775808) :
    Calls Tryd.prog 40 #[.int .i64 n] w fun e w' => ∃ v, e = .returned v ∧ OwnI w.heap.size w' v (limbF n 4) ∧ Below w.heap.size w w' := by
  obtain ⟨i0, hi, hz0, hz1, hz2⟩ := info_parts Tryd.infoI
  go_enter Tryd.func40, Tryd.ntmps40
  go_wp2
  go_loopw [0, 3, 4] (fun m o i wr => ∃ k : Nat, k ≤ 4 ∧ i = .int .i64 k ∧ m = .int .i64 (n / 65536 ^ k) ∧ OwnI w.heap.size wr o (limbF n k) ∧ Below w.heap.size w wr) (fun _ _ i _ => 4 - (intOf i).toNat)
  case atStart => exact ⟨0, by omega, rfl, by simp, World.ownsRow_nil _ _ _ _, Below.refl _ _⟩
  case round =>
    obtain ⟨k, hk, rfl, rfl, hown, hb⟩ := hrel
    by_cases hlt : k < 4
    · have hlt' : (k : Int) < 4 := by omega
      have hd0 : 0 ≤ n / 65536 ^ k := Int.ediv_nonneg h0 (Int.pow_nonneg (by decide))
      have hd1 : n / 65536 ^ k ≤ n := Int.ediv_le_self _ h0
      have hnx : n / 65536 ^ k / 65536 = n / 65536 ^ (k + 1) := by rw [Int.ediv_ediv_of_nonneg (Int.pow_nonneg (by decide)), Int.pow_succ]
      have HL : Hid (limbF n (k + 1) = limbF n k ++ [n / 65536 ^ k % 65536]) := limbF_snoc k n
      have Hnx : Hid _ := hnx
      clear hnx
      generalize n / 65536 ^ k = m at *
      have Hown : Hid _ := hown
      have Hb : Hid _ := hb
      have hsz := hb.size
      clear hown hb
      have hll := limbF_length k n
      generalize limbF n k = L at *
      go_wp2_with (first
        | refine wpList_append_own _ rfl _ _ 22 rfl w.heap.size 3 i0 (.int .i64 0) 1 8 Tryd.underlying22 hi hz0 hz1 hz2 rfl (by decide) _ _ _ rfl (Hown.out.alloc _) ⟨wr.heap.size, 0, none⟩ 1 1 [.int .i64 (m % 65536)] rfl rfl (cell_one_new _ _ _) (by simp [Value.oneCell']) (by rw [hll]; unfold maxLen; omega) (by rw [hll]; omega) (by simp; omega) ?_)
      intro v' w' hown' hgrow _
      have HO : Hid (OwnI w.heap.size w' v' (limbF n (k + 1))) := by
        show w'.ownsRow _ _ _ _ _ _
        rw [HL.out]
        have := hown'
        rw [List.length_append, List.length_singleton, hll]
        simpa [cellsI] using this
      have HBw : Hid (Below w.heap.size w w') := (Hb.out.alloc hsz _).grown hgrow (by simp; omega) (fun j e => (Hown.out.lt j e).1)
      clear hown' hgrow
      go_wp2_with fail
      go_roundw
      case rel => exact ⟨k + 1, by omega, by go_num, by rw [Hnx.out], HO.out, HBw.out⟩
      case measure => simp [intOf]; omega
    · have hk4 : k = 4 := by omega
      subst hk4
      have hlt' : ¬ ((4 : Nat) : Int) < 4 := by decide
      have Hown : Hid _ := hown
      have Hb : Hid _ := hb
      clear hown hb
      go_wp2_with fail
      go_ret
      exact ⟨_, rfl, Hown.out, Hb.out⟩

set_option maxRecDepth 100000 in
set_option maxHeartbeats 400000 in
theorem refShifted_any (n : Int) (k : Nat) (w : World) (hk : k ≤ 6) :
    Calls Tryd.prog 42 #[.int .i64 n, .int .i64 (k : Int)] w fun e w' => ∃ v, e = .returned v ∧ OwnI w.heap.size w' v (shiftF n k) ∧ Below w.heap.size w w' := by
  obtain ⟨i0, hi, hz0, hz1, hz2⟩ := info_parts Tryd.infoI
  have hmk := fun w => run_make_row' (P := Tryd.prog) 22 3 (.int .i64 0) 8 Tryd.underlying22 Tryd.infoI rfl .i64 .i64 k (by omega) (by omega) w
  have hown : (w.alloc (.cells (madeCells #[.int .i64 0] k) 3)).ownsRow w.heap.size 3 1 (.slice (some ⟨w.heap.size, 0, none⟩) k k) k (List.replicate k (.int .i64 0)) := by
    rw [madeCells_one]
    have := World.ownsRow_lit (e := 3) (base := w.heap.size) (size := 1) w (List.replicate k (Value.int .i64 0)).toArray k (Nat.le_refl _) (by unfold maxLen; omega) (by simp)
    simpa using this
  have hnew : ∀ (j : Nat) (u : Value), [Value.int .i64 n][j]? = some u → ((w.alloc (.cells (madeCells #[.int .i64 0] k) 3)).alloc (.cells #[.int .i64 n] 3)).cell? ((⟨w.heap.size + 1, 0, none⟩ : Addr).add j) = some u := by
    have := cell_one_new (w.alloc (.cells (madeCells #[.int .i64 0] k) 3)) (.int .i64 n) 3
    rw [World.size_alloc] at this
    exact this
  have Hnew : Hid _ := hnew
  have Hown : Hid _ := hown
  clear hown hnew
  go_enter Tryd.func42, Tryd.ntmps42
  go_wp2_with (first
    | refine wpList_append_own _ rfl _ _ 22 rfl w.heap.size 3 i0 (.int .i64 0) 1 8 Tryd.underlying22 hi hz0 hz1 hz2 rfl (by decide) (.slice (some ⟨w.heap.size, 0, none⟩) k k) k (List.replicate k (.int .i64 0)) rfl ?h1 ⟨w.heap.size + 1, 0, none⟩ 1 1 [.int .i64 n] ?h2 ?h3 ?h4 ?h5 ?h6 ?h7 ?h8 ?_)
  case h1 => exact World.ownsRow.alloc Hown.out _
  case h2 => rfl
  case h3 => rfl
  case h4 => exact Hnew.out
  case h5 => simp [Value.oneCell']
  case h6 => unfold maxLen; omega
  case h7 => omega
  case h8 => simp only [World.size_alloc]; omega
  intro v' w' hown' hgrow _
  have HO : Hid (OwnI w.heap.size w' v' (shiftF n k)) := by
    show w'.ownsRow _ _ _ _ _ _
    have := hown'
    rw [shiftF, List.length_append, List.length_singleton, List.length_replicate]
    simpa [cellsI] using this
  have HBw : Hid (Below w.heap.size w w') := (((Below.refl _ _).alloc (Nat.le_refl _) _).alloc (by simp) _).grown hgrow (by simp only [World.size_alloc]; omega) (fun j e => (World.ownsRow.lt Hown.out j e).1)
  clear hown' hgrow
  go_wp2_with fail
  go_ret
  exact ⟨_, rfl, HO.out, HBw.out⟩

/-- a slice of integers that lies in memory -/
structure RowI (w : World) (v : Value) (l : List Int) (g cap : Nat) : Prop where
  val : v = .slice (some ⟨g, 0, none⟩) l.length cap
  lt : g < w.heap.size
  row : w.rangeAt g 0 (cellsI l)

set_option maxRecDepth 100000 in
set_option maxHeartbeats 400000 in
theorem above_any (a b : List Int) (ga ca gb cb : Nat) (w : World) (ha : w.rangeAt ga 0 (cellsI a)) (hb : w.rangeAt gb 0 (cellsI b)) (hda : Dgs a) (hdb : Dgs b) (hla : a.length ≤ 100) (hlb : b.length ≤ 100) :
    Calls Tryd.prog 43 #[.slice (some ⟨ga, 0, none⟩) a.length ca, .slice (some ⟨gb, 0, none⟩) b.length cb] w fun e w' => e = .returned (.bool (decide (numL b < numL a))) ∧ w' = w := by
  have Ha : Hid _ := ha
  have Hb : Hid _ := hb
  have HA : Hid (Dgs a) := hda
  have HB : Hid (Dgs b) := hdb
  clear ha hb hda hdb
  go_enter Tryd.func43, Tryd.ntmps43
  go_wp2
  go_loop [5] (fun i => ∃ m : Nat, m ≤ a.length + b.length + 1 ∧ i = .int .i64 ((m : Int) - 1) ∧ hiL a m = hiL b m) (fun i => (intOf i + 1).toNat)
  case atStart => exact ⟨a.length + b.length + 1, Nat.le_refl _, by go_num, by rw [hiL_past a _ (by omega), hiL_past b _ (by omega)]⟩
  case round =>
    obtain ⟨m, hm, rfl, heq⟩ := hrel
    cases m with
    | zero =>
      have heq' : numL a = numL b := heq
      have HD : Hid (decide (numL b < numL a) = false) := by show decide _ = _; rw [heq']; simp
      clear heq heq'
      simp only [show ((0 : Nat) : Int) - 1 = -1 from rfl]
      go_wp2
      go_ret
      exact ⟨by rw [HD.out]; rfl, rfl⟩
    | succ i =>
      rw [show ((i + 1 : Nat) : Int) - 1 = (i : Int) from by omega]
      have hi0 : (0 : Int) ≤ (i : Int) := by omega
      have sa := hiL_step a i
      have sb := hiL_step b i
      have Hxa : Hid (∀ h : i < a.length, w.cell? ⟨ga, i, none⟩ = some (.int .i64 (a.getD i 0))) := fun h => rangeI0 Ha.out i h
      have Hxb : Hid (∀ h : i < b.length, w.cell? ⟨gb, i, none⟩ = some (.int .i64 (b.getD i 0))) := fun h => rangeI0 Hb.out i h
      go_upto_if 20 with fail
      go_cut [6] (fun v W => W = w ∧ v = .int .i64 (a.getD i 0))
      case first =>
        by_cases h : i < a.length
        · have h' : (i : Int) < (a.length : Int) := by omega
          have hc := Hxa.out h
          generalize a.getD i 0 = x at *
          go_wp2_with fail
          go_meet
          case rel => exact ⟨rfl, rfl⟩
        · have h' : ¬ (i : Int) < (a.length : Int) := by omega
          go_wp2_with fail
          go_meet
          case rel => exact ⟨rfl, by rw [List.getD_eq_getElem?_getD, List.getElem?_eq_none (by omega)]; rfl⟩
      case rest =>
        obtain ⟨hwc, rfl⟩ := hcut
        subst hwc
        rename_i wc
        go_upto_if 28 with fail
        go_cut [7] (fun v W => W = wc ∧ v = .int .i64 (b.getD i 0))
        case first =>
          by_cases h : i < b.length
          · have h' : (i : Int) < (b.length : Int) := by omega
            have hc := Hxb.out h
            generalize b.getD i 0 = y at *
            go_wp2_with fail
            go_meet
            case rel => exact ⟨rfl, rfl⟩
          · have h' : ¬ (i : Int) < (b.length : Int) := by omega
            go_wp2_with fail
            go_meet
            case rel => exact ⟨rfl, by rw [List.getD_eq_getElem?_getD, List.getElem?_eq_none (by omega)]; rfl⟩
        case rest =>
          obtain ⟨hwc, rfl⟩ := hcut
          subst hwc
          generalize a.getD i 0 = x at *
          generalize b.getD i 0 = y at *
          by_cases hxy : x = y
          · subst hxy
            have HN : Hid (hiL a i = hiL b i) := by show hiL a i = _; rw [sa, sb, heq]
            clear sa sb heq
            go_wp2_with fail
            refine ⟨⟨i, by omega, rfl, HN.out⟩, ?_⟩
            first | (simp [intOf]; done) | (simp [intOf]; omega)
          · have hne : (x == y) = false := by rw [beq_eq_false_iff_ne]; exact hxy
            have HD : Hid (decide (y < x) = decide (numL b < numL a)) := by
              show decide _ = _
              congr 1
              apply propext
              constructor
              · intro h; exact hiL_lift HA.out HB.out i (by omega)
              · intro h
                apply Classical.byContradiction
                intro h2
                have := hiL_lift HB.out HA.out i (by omega)
                omega
            clear sa sb heq
            go_wp2_with fail
            go_ret
            exact ⟨by rw [← HD.out]; rfl, rfl⟩

end Go.Proofs.YtkmoglhgkcnalaaDoor
