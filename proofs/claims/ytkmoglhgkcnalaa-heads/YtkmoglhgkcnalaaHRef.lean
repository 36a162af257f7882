/- The reference's Head; the calls of Heads. -/
import Derived.Test.YtkmoglhgkcnalaaHHead
import Derived.Test.YtkmoglhgkcnalaaHAid
import Derived.Deep.CutRange
import Derived.Deep.DeepCutAuto
namespace Go.Proofs.Ytkmoglhgkcnalaa
open Go.RowKit

theorem cutL_snoc (L : List UInt8) (a i : Nat) (h : a + i < L.length) : cutL L a (a + (i + 1)) = cutL L a (a + i) ++ [L.getD (a + i) 0] := by
  rw [cutL, cutL, show a + (i + 1) = a + i + 1 from by omega, List.take_succ_eq_append_getElem h, List.drop_append_of_le_length (by simp; omega), List.getD_eq_getElem?_getD, List.getElem?_eq_getElem h]
  rfl
theorem wrap_small (n : Int) (h0 : 0 ≤ n) (h1 : n ≤ 9223372036854775807) : IntKind.i64.wrap n = n := by rw [IntKind.wrap_i64]; omega
theorem index_str (s : ByteArray) (p : Nat) (i : Int) (hi : i = (p : Int)) (h : p < s.size) (W : World) : (Instr.index 9 (.string s) (.int .i64 i)).run Try.prog W = .ok (.int .u8 ((s.data.toList.getD p 0).toNat : Int)) W := by
  subst hi
  have h2 : s.data.toList.getD p 0 = s[p] := by
    rw [List.getD_eq_getElem?_getD, List.getElem?_eq_getElem (by simpa using h)]; rfl
  rw [h2]
  simp [Instr.index, asIntOf, run_underlying Try.underlying9, h]

set_option maxHeartbeats 400000 in
theorem refN_any (s : ByteArray) (a n : Nat) (w : World) (hn : n ≤ 4) (ha : a + n ≤ s.size) (hs : s.size ≤ 140737488355328) :
    Calls Try.prog 21 #[.string s, .int .i64 (a : Int), .int .i64 (n : Int)] w fun e w' => e = .returned (.int .i64 (numF (cutL s.data.toList a (a + n)))) ∧ w' = w := by
  have hsl : s.data.toList.length = s.size := by rw [Array.length_toList]; rfl
  have HSL : Hid (s.data.toList.length = s.size) := hsl
  clear hsl
  go_enter Try.func21, Try.ntmps21
  go_wp2
  go_loop [7, 8] (fun v i => ∃ k : Nat, k ≤ n ∧ i = .int .i64 k ∧ v = .int .i64 (numF (cutL s.data.toList a (a + k)))) (fun _ i => n - (intOf i).toNat)
  case atStart => exact ⟨0, Nat.zero_le _, rfl, by rw [Nat.add_zero, cutL, List.drop_eq_nil_of_le (by simp; omega)]; rfl⟩
  case round =>
    obtain ⟨k, hk, rfl, rfl⟩ := hrel
    by_cases hlt : k < n
    · have hlt' : (k : Int) < (n : Int) := by omega
      have hb := numF_lt (cutL s.data.toList a (a + k)) 3 (by rw [cutL]; simp; omega)
      have hi := index_str s (a + k) ((a : Int) + (k : Int)) (by omega) (by omega)
      have HN : Hid (numF (cutL s.data.toList a (a + (k + 1))) = 256 * numF (cutL s.data.toList a (a + k)) + ((s.data.toList.getD (a + k) 0).toNat : Int)) := by
        show numF _ = _
        rw [cutL_snoc _ _ _ (by rw [HSL.out]; omega), numF_snoc]
      have hx := (s.data.toList.getD (a + k) 0).toNat_lt
      generalize s.data.toList.getD (a + k) 0 = x at hi HN hx
      have Hb : Hid _ := HN
      generalize numF (cutL s.data.toList a (a + k)) = y at *
      obtain ⟨hb0, hb1⟩ := hb
      have hb1' : y < 16777216 := by simpa using hb1
      clear hb1
      go_wp2
      go_round
      case rel => exact ⟨k + 1, by omega, by go_num, by rw [HN.out]⟩
      case measure => simp [intOf]; omega
    · have hkn : k = n := by omega
      subst hkn
      have hlt' : ¬ (k : Int) < (k : Int) := by omega
      go_wp2
      go_ret
      exact ⟨rfl, rfl⟩

/-- the reference's head in memory, behind the result's place -/
structure HeadW (w M : World) (H : List Value) : Prop where
  below : Below w.heap.size w M
  there : M.there w.heap.size 0 6
  row : M.rangeAt (w.heap.size + 1) 0 H
theorem headW_make {w W0 : World} (T : TypeId) (H : List Value) (hs0 : W0.heap.size = w.heap.size + 1) (hb0 : Below w.heap.size w W0) (ht0 : W0.there w.heap.size 0 6) (hl : H.length = 6) :
    HeadW w (((World.drew W0).alloc (.cells #[.int .i64 0, .int .i64 0, .int .i64 0, .int .i64 0, .int .i64 0, .string ⟨#[]⟩] T)).setCells (w.heap.size + 1) 0 H.toArray.toList) H := by
  have hth : ((World.drew W0).alloc (.cells #[.int .i64 0, .int .i64 0, .int .i64 0, .int .i64 0, .int .i64 0, .string ⟨#[]⟩] T)).there (w.heap.size + 1) 0 6 := there_new _ _ _ _ _ hs0.symm rfl
  exact ⟨below_setCells (by omega) _ _ _ _ ((Below.drew hb0).alloc (by show w.heap.size ≤ W0.heap.size; omega) _), World.there_setCells (World.there_alloc ((World.there_drew _ _ _ _).2 ht0) _) _ _ _, World.rangeAt_setCells_same _ _ _ _ (by rw [hl]; exact hth)⟩

set_option maxRecDepth 100000 in
set_option maxHeartbeats 8000000 in
theorem refHead_any (s : ByteArray) (w : World) (hs : s.size ≤ 140737488355328) :
    Calls Try.prog 11 #[.string s] w fun e w' => e = .returned (.tuple #[.agg (headF s.data.toList).1.toArray, .int .i64 (headF s.data.toList).2]) ∧ Below w.heap.size w w' := by
  have hsl : s.data.toList.length = s.size := by rw [Array.length_toList]; rfl
  by_cases h1 : s.size < 8192
  · have hF : headF s.data.toList = (headZ, 3) := by rw [headF, if_pos (by rw [hsl]; exact h1)]
    rw [hF]
    have h1' : (s.size : Int) < 8192 := by omega
    go_enter Try.func11, Try.ntmps11
    go_wp2_with fail
    exact bodyPost_ret (v := .tuple #[.agg headZ.toArray, .int .i64 3]) (results_cell_tmp (p := 2) (q := 3) (ty := 35) (by kernel_rfl) _ _ w.heap.size 0 headZ _ _ rfl (range_new _ headZ _ _ rfl) rfl Try.underlying35 rfl (by kernel_rfl)) rfl ⟨rfl, (Below.refl _ _).alloc (Nat.le_refl _) _⟩
  · have h1' : ¬ (s.size : Int) < 8192 := by omega
    have h1i : (8192 : Int) ≤ (s.size : Int) := by omega
    have hcut := fun a b (h : b ≤ 8192) => cutL_length s.data.toList a b (by rw [hsl]; omega)
    have ht4 : s.extract 0 4 = ⟨(s.data.toList.take 4).toArray⟩ := by rw [cut_str]; rfl
    by_cases h2 : s.data.toList.take 4 ≠ [76, 78, 84, 76]
    · have hF : headF s.data.toList = (headZ, 4) := by rw [headF, if_neg (by rw [hsl]; exact h1), if_pos h2]
      rw [hF]
      have h2b : (s.data.toList.take 4 == [76, 78, 84, 76]) = false := by rw [beq_eq_false_iff_ne]; exact h2
      go_enter Try.func11, Try.ntmps11
      go_wp2_with fail
      exact bodyPost_ret (v := .tuple #[.agg headZ.toArray, .int .i64 4]) (results_cell_tmp (p := 2) (q := 3) (ty := 35) (by kernel_rfl) _ _ w.heap.size 0 headZ _ _ rfl (range_new _ headZ _ _ rfl) rfl Try.underlying35 rfl (by kernel_rfl)) rfl ⟨rfl, (Below.refl _ _).alloc (Nat.le_refl _) _⟩
    · have h2e : s.data.toList.take 4 = [76, 78, 84, 76] := Classical.not_not.1 h2
      have h2b : (s.data.toList.take 4 == [76, 78, 84, 76]) = true := by rw [beq_iff_eq]; exact h2e
      rw [show headF s.data.toList = headG (numF (cutL s.data.toList 4 6)) (numF (cutL s.data.toList 6 10)) (numF (cutL s.data.toList 10 14)) (numF (cutL s.data.toList 14 18)) (numF (cutL s.data.toList 18 22)) (cutL s.data.toList 22 78) from by rw [headF, if_neg (by rw [hsl]; exact h1), if_neg h2]]
      have hb : ∀ a b, b ≤ 8192 → b - a ≤ 4 → 0 ≤ numF (cutL s.data.toList a b) ∧ numF (cutL s.data.toList a b) < 4294967296 := fun a b h h' => numF_lt _ 4 (by rw [hcut a b h]; exact h')
      have q1 := hb 4 6 (by omega) (by omega)
      have q2 := hb 6 10 (by omega) (by omega)
      have q3 := hb 10 14 (by omega) (by omega)
      have q4 := hb 14 18 (by omega) (by omega)
      have q5 := hb 18 22 (by omega) (by omega)
      have n1 : ∀ W, Calls Try.prog 21 #[.string s, .int .i64 4, .int .i64 2] W fun e w' => e = .returned (.int .i64 (numF (cutL s.data.toList 4 6))) ∧ w' = W := fun W => refN_any s 4 2 W (by omega) (by omega) hs
      have n2 : ∀ W, Calls Try.prog 21 #[.string s, .int .i64 6, .int .i64 4] W fun e w' => e = .returned (.int .i64 (numF (cutL s.data.toList 6 10))) ∧ w' = W := fun W => refN_any s 6 4 W (by omega) (by omega) hs
      have n3 : ∀ W, Calls Try.prog 21 #[.string s, .int .i64 10, .int .i64 4] W fun e w' => e = .returned (.int .i64 (numF (cutL s.data.toList 10 14))) ∧ w' = W := fun W => refN_any s 10 4 W (by omega) (by omega) hs
      have n4 : ∀ W, Calls Try.prog 21 #[.string s, .int .i64 14, .int .i64 4] W fun e w' => e = .returned (.int .i64 (numF (cutL s.data.toList 14 18))) ∧ w' = W := fun W => refN_any s 14 4 W (by omega) (by omega) hs
      have n5 : ∀ W, Calls Try.prog 21 #[.string s, .int .i64 18, .int .i64 4] W fun e w' => e = .returned (.int .i64 (numF (cutL s.data.toList 18 22))) ∧ w' = W := fun W => refN_any s 18 4 W (by omega) (by omega) hs
      have hk : s.extract 22 78 = ⟨(cutL s.data.toList 22 78).toArray⟩ := cut_str s 22 78
      generalize numF (cutL s.data.toList 4 6) = v at *
      generalize numF (cutL s.data.toList 6 10) = sg at *
      generalize numF (cutL s.data.toList 10 14) = en at *
      generalize numF (cutL s.data.toList 14 18) = a at *
      generalize numF (cutL s.data.toList 18 22) = l at *
      generalize cutL s.data.toList 22 78 = ky at *
      obtain ⟨q1a, q1b⟩ := q1
      obtain ⟨q2a, q2b⟩ := q2
      obtain ⟨q3a, q3b⟩ := q3
      obtain ⟨q4a, q4b⟩ := q4
      obtain ⟨q5a, q5b⟩ := q5
      clear hb hcut h2 h2e
      have N1 : Hid _ := n1
      have N2 : Hid _ := n2
      have N3 : Hid _ := n3
      have N4 : Hid _ := n4
      have N5 : Hid _ := n5
      clear n1 n2 n3 n4 n5
      go_enter Try.func11, Try.ntmps11
      go_upto_region 5 with fail
      obtain ⟨W0, hW0⟩ : ∃ W0, W0 = w.alloc (.cells headZ.toArray 35) := ⟨_, rfl⟩
      have hW0' : w.alloc (.cells #[.int .i64 0, .int .i64 0, .int .i64 0, .int .i64 0, .int .i64 0, .string ⟨#[]⟩] 35) = W0 := hW0.symm
      rw [hW0']
      have hs0 : W0.heap.size = w.heap.size + 1 := by rw [hW0]; simp
      have hb0 : Below w.heap.size w W0 := by rw [hW0]; exact (Below.refl _ _).alloc (Nat.le_refl _) _
      have ht0 : W0.there w.heap.size 0 6 := by rw [hW0]; exact there_new _ _ _ _ _ rfl rfl
      clear hW0 hW0'
      go_cut [4] (fun p M => p = .pointer (some ⟨w.heap.size + 1, 0, none⟩) ∧ HeadW w M (headV v sg en a l ky))
      case first =>
        have HW : Hid (HeadW w (((World.drew W0).alloc (.cells #[.int .i64 0, .int .i64 0, .int .i64 0, .int .i64 0, .int .i64 0, .string ⟨#[]⟩] 35)).setCells (w.heap.size + 1) 0 (headV v sg en a l ky).toArray.toList) (headV v sg en a l ky)) := headW_make _ _ hs0 hb0 ht0 rfl
        have HT : Hid (((World.drew W0).alloc (.cells #[.int .i64 0, .int .i64 0, .int .i64 0, .int .i64 0, .int .i64 0, .string ⟨#[]⟩] 35)).there (w.heap.size + 1) 0 (headV v sg en a l ky).toArray.size) := there_new _ _ _ _ _ hs0.symm rfl
        refine wp_region_any (by kernel_rfl) ?_
        change wpAny _ _ _ _ _ _ _ (World.drew W0)
        refine wpAny_take (i := 0) (v := .string s) rfl (by kernel_rfl) (by kernel_rfl) (by kernel_rfl) (fun _ _ _ h => h) (Or.inl ⟨by rfl, by intro w; go_simp⟩) ?_
        refine wpAny_take (i := 2) (v := .string s) rfl (by kernel_rfl) (by kernel_rfl) (by kernel_rfl) (fun _ _ _ h => h) (Or.inl ⟨by rfl, by intro w; go_simp⟩) ?_
        refine wpAny_take (i := 4) (v := .string s) rfl (by kernel_rfl) (by kernel_rfl) (by kernel_rfl) (fun _ _ _ h => h) (Or.inl ⟨by rfl, by intro w; go_simp⟩) ?_
        refine wpAny_take (i := 6) (v := .string s) rfl (by kernel_rfl) (by kernel_rfl) (by kernel_rfl) (fun _ _ _ h => h) (Or.inl ⟨by rfl, by intro w; go_simp⟩) ?_
        refine wpAny_take (i := 8) (v := .string s) rfl (by kernel_rfl) (by kernel_rfl) (by kernel_rfl) (fun _ _ _ h => h) (Or.inl ⟨by rfl, by intro w; go_simp⟩) ?_
        refine wpAny_take (i := 10) (v := .string s) rfl (by kernel_rfl) (by kernel_rfl) (by kernel_rfl) (fun _ _ _ h => h) (Or.inl ⟨by rfl, by intro w; go_simp⟩) ?_
        refine wpAny_take (i := 11) (v := .string ⟨ky.toArray⟩) rfl (by kernel_rfl) (by kernel_rfl) (by kernel_rfl) (fun _ _ _ h => h) (Or.inl ⟨by rfl, by intro w; go_simp; intro h; omega⟩) ?_
        refine wpAny_all (rs := [1, 13]) (by kernel_rfl) (List.cons_ne_nil _ _) (all_two (wpOp_run rfl rfl (wp_call 21 #[.string s, .int .i64 4, .int .i64 2] (by go_simp) (.int .i64 v) (fun w' => w' = World.drew W0) (N1.out _) (fun w2 hw2 => ?_))) (wpOp_run rfl rfl (wp_value (.pointer (some ⟨w.heap.size + 1, 0, none⟩)) ((World.drew W0).alloc (.cells #[.int .i64 0, .int .i64 0, .int .i64 0, .int .i64 0, .int .i64 0, .string ⟨#[]⟩] 35)) (by go_simp; done) ?_)))
        · subst hw2
          refine wpAny_all (rs := [3, 13]) (by kernel_rfl) (List.cons_ne_nil _ _) (all_two (wpOp_run rfl rfl (wp_call 21 #[.string s, .int .i64 6, .int .i64 4] (by go_simp) (.int .i64 sg) (fun w' => w' = World.drew W0) (N2.out _) (fun w2 hw2 => ?_))) (wpOp_run rfl rfl (wp_value (.pointer (some ⟨w.heap.size + 1, 0, none⟩)) ((World.drew W0).alloc (.cells #[.int .i64 0, .int .i64 0, .int .i64 0, .int .i64 0, .int .i64 0, .string ⟨#[]⟩] 35)) (by go_simp; done) ?_)))
          · subst hw2
            refine wpAny_all (rs := [5, 13]) (by kernel_rfl) (List.cons_ne_nil _ _) (all_two (wpOp_run rfl rfl (wp_call 21 #[.string s, .int .i64 10, .int .i64 4] (by go_simp) (.int .i64 en) (fun w' => w' = World.drew W0) (N3.out _) (fun w2 hw2 => ?_))) (wpOp_run rfl rfl (wp_value (.pointer (some ⟨w.heap.size + 1, 0, none⟩)) ((World.drew W0).alloc (.cells #[.int .i64 0, .int .i64 0, .int .i64 0, .int .i64 0, .int .i64 0, .string ⟨#[]⟩] 35)) (by go_simp; done) ?_)))
            · subst hw2
              refine wpAny_all (rs := [7, 13]) (by kernel_rfl) (List.cons_ne_nil _ _) (all_two (wpOp_run rfl rfl (wp_call 21 #[.string s, .int .i64 14, .int .i64 4] (by go_simp) (.int .i64 a) (fun w' => w' = World.drew W0) (N4.out _) (fun w2 hw2 => ?_))) (wpOp_run rfl rfl (wp_value (.pointer (some ⟨w.heap.size + 1, 0, none⟩)) ((World.drew W0).alloc (.cells #[.int .i64 0, .int .i64 0, .int .i64 0, .int .i64 0, .int .i64 0, .string ⟨#[]⟩] 35)) (by go_simp; done) ?_)))
              · subst hw2
                refine wpAny_all (rs := [9, 13]) (by kernel_rfl) (List.cons_ne_nil _ _) (all_two (wpOp_run rfl rfl (wp_call 21 #[.string s, .int .i64 18, .int .i64 4] (by go_simp) (.int .i64 l) (fun w' => w' = World.drew W0) (N5.out _) (fun w2 hw2 => ?_))) (wpOp_run rfl rfl (wp_value (.pointer (some ⟨w.heap.size + 1, 0, none⟩)) ((World.drew W0).alloc (.cells #[.int .i64 0, .int .i64 0, .int .i64 0, .int .i64 0, .int .i64 0, .string ⟨#[]⟩] 35)) (by go_simp; done) ?_)))
                · subst hw2
                  refine wpAny_take (i := 12) (v := .agg #[.int .i64 v, .int .i64 sg, .int .i64 en, .int .i64 a, .int .i64 l, .string ⟨ky.toArray⟩]) rfl (by kernel_rfl) (by kernel_rfl) (by kernel_rfl) (fun _ _ _ h => h) (Or.inl ⟨by rfl, by intro w; go_simp⟩) ?_
                  refine wpAny_all (rs := [13]) (by kernel_rfl) (List.cons_ne_nil _ _) (all_one (wpOp_run rfl rfl (wp_value (.pointer (some ⟨w.heap.size + 1, 0, none⟩)) ((World.drew W0).alloc (.cells #[.int .i64 0, .int .i64 0, .int .i64 0, .int .i64 0, .int .i64 0, .string ⟨#[]⟩] 35)) (by go_simp; done) ?_)))
                  refine wpAny_all (rs := [14]) (by kernel_rfl) (List.cons_ne_nil _ _) (all_one (wpOp_store_mid (by rfl) (by rfl) 35 (.tmp 4) (.tmp 25) (by rfl) (w.heap.size + 1) 0 (headV v sg en a l ky).toArray (by go_simp) (by go_simp; rfl) HT.out (by kernel_rfl) (by kernel_rfl) (by rfl) ?_))
                  refine wpAny_done (by kernel_rfl) ?_ _
                  go_wp2_with fail
                  go_meet
                  case rel => exact ⟨rfl, HW.out⟩
                · skip
                  refine wpAny_all (rs := [9]) (by kernel_rfl) (List.cons_ne_nil _ _) (all_one (wpOp_run rfl rfl (wp_call 21 #[.string s, .int .i64 18, .int .i64 4] (by go_simp) (.int .i64 l) (fun w' => w' = ((World.drew W0).alloc (.cells #[.int .i64 0, .int .i64 0, .int .i64 0, .int .i64 0, .int .i64 0, .string ⟨#[]⟩] 35))) (N5.out _) (fun w2 hw2 => ?_))))
                  subst hw2
                  refine wpAny_take (i := 12) (v := .agg #[.int .i64 v, .int .i64 sg, .int .i64 en, .int .i64 a, .int .i64 l, .string ⟨ky.toArray⟩]) rfl (by kernel_rfl) (by kernel_rfl) (by kernel_rfl) (fun _ _ _ h => h) (Or.inl ⟨by rfl, by intro w; go_simp⟩) ?_
                  refine wpAny_all (rs := [14]) (by kernel_rfl) (List.cons_ne_nil _ _) (all_one (wpOp_store_mid (by rfl) (by rfl) 35 (.tmp 4) (.tmp 25) (by rfl) (w.heap.size + 1) 0 (headV v sg en a l ky).toArray (by go_simp) (by go_simp; rfl) HT.out (by kernel_rfl) (by kernel_rfl) (by rfl) ?_))
                  refine wpAny_done (by kernel_rfl) ?_ _
                  go_wp2_with fail
                  go_meet
                  case rel => exact ⟨rfl, HW.out⟩
              · skip
                refine wpAny_all (rs := [7]) (by kernel_rfl) (List.cons_ne_nil _ _) (all_one (wpOp_run rfl rfl (wp_call 21 #[.string s, .int .i64 14, .int .i64 4] (by go_simp) (.int .i64 a) (fun w' => w' = ((World.drew W0).alloc (.cells #[.int .i64 0, .int .i64 0, .int .i64 0, .int .i64 0, .int .i64 0, .string ⟨#[]⟩] 35))) (N4.out _) (fun w2 hw2 => ?_))))
                subst hw2
                refine wpAny_all (rs := [9]) (by kernel_rfl) (List.cons_ne_nil _ _) (all_one (wpOp_run rfl rfl (wp_call 21 #[.string s, .int .i64 18, .int .i64 4] (by go_simp) (.int .i64 l) (fun w' => w' = ((World.drew W0).alloc (.cells #[.int .i64 0, .int .i64 0, .int .i64 0, .int .i64 0, .int .i64 0, .string ⟨#[]⟩] 35))) (N5.out _) (fun w2 hw2 => ?_))))
                subst hw2
                refine wpAny_take (i := 12) (v := .agg #[.int .i64 v, .int .i64 sg, .int .i64 en, .int .i64 a, .int .i64 l, .string ⟨ky.toArray⟩]) rfl (by kernel_rfl) (by kernel_rfl) (by kernel_rfl) (fun _ _ _ h => h) (Or.inl ⟨by rfl, by intro w; go_simp⟩) ?_
                refine wpAny_all (rs := [14]) (by kernel_rfl) (List.cons_ne_nil _ _) (all_one (wpOp_store_mid (by rfl) (by rfl) 35 (.tmp 4) (.tmp 25) (by rfl) (w.heap.size + 1) 0 (headV v sg en a l ky).toArray (by go_simp) (by go_simp; rfl) HT.out (by kernel_rfl) (by kernel_rfl) (by rfl) ?_))
                refine wpAny_done (by kernel_rfl) ?_ _
                go_wp2_with fail
                go_meet
                case rel => exact ⟨rfl, HW.out⟩
            · skip
              refine wpAny_all (rs := [5]) (by kernel_rfl) (List.cons_ne_nil _ _) (all_one (wpOp_run rfl rfl (wp_call 21 #[.string s, .int .i64 10, .int .i64 4] (by go_simp) (.int .i64 en) (fun w' => w' = ((World.drew W0).alloc (.cells #[.int .i64 0, .int .i64 0, .int .i64 0, .int .i64 0, .int .i64 0, .string ⟨#[]⟩] 35))) (N3.out _) (fun w2 hw2 => ?_))))
              subst hw2
              refine wpAny_all (rs := [7]) (by kernel_rfl) (List.cons_ne_nil _ _) (all_one (wpOp_run rfl rfl (wp_call 21 #[.string s, .int .i64 14, .int .i64 4] (by go_simp) (.int .i64 a) (fun w' => w' = ((World.drew W0).alloc (.cells #[.int .i64 0, .int .i64 0, .int .i64 0, .int .i64 0, .int .i64 0, .string ⟨#[]⟩] 35))) (N4.out _) (fun w2 hw2 => ?_))))
              subst hw2
              refine wpAny_all (rs := [9]) (by kernel_rfl) (List.cons_ne_nil _ _) (all_one (wpOp_run rfl rfl (wp_call 21 #[.string s, .int .i64 18, .int .i64 4] (by go_simp) (.int .i64 l) (fun w' => w' = ((World.drew W0).alloc (.cells #[.int .i64 0, .int .i64 0, .int .i64 0, .int .i64 0, .int .i64 0, .string ⟨#[]⟩] 35))) (N5.out _) (fun w2 hw2 => ?_))))
              subst hw2
              refine wpAny_take (i := 12) (v := .agg #[.int .i64 v, .int .i64 sg, .int .i64 en, .int .i64 a, .int .i64 l, .string ⟨ky.toArray⟩]) rfl (by kernel_rfl) (by kernel_rfl) (by kernel_rfl) (fun _ _ _ h => h) (Or.inl ⟨by rfl, by intro w; go_simp⟩) ?_
              refine wpAny_all (rs := [14]) (by kernel_rfl) (List.cons_ne_nil _ _) (all_one (wpOp_store_mid (by rfl) (by rfl) 35 (.tmp 4) (.tmp 25) (by rfl) (w.heap.size + 1) 0 (headV v sg en a l ky).toArray (by go_simp) (by go_simp; rfl) HT.out (by kernel_rfl) (by kernel_rfl) (by rfl) ?_))
              refine wpAny_done (by kernel_rfl) ?_ _
              go_wp2_with fail
              go_meet
              case rel => exact ⟨rfl, HW.out⟩
          · skip
            refine wpAny_all (rs := [3]) (by kernel_rfl) (List.cons_ne_nil _ _) (all_one (wpOp_run rfl rfl (wp_call 21 #[.string s, .int .i64 6, .int .i64 4] (by go_simp) (.int .i64 sg) (fun w' => w' = ((World.drew W0).alloc (.cells #[.int .i64 0, .int .i64 0, .int .i64 0, .int .i64 0, .int .i64 0, .string ⟨#[]⟩] 35))) (N2.out _) (fun w2 hw2 => ?_))))
            subst hw2
            refine wpAny_all (rs := [5]) (by kernel_rfl) (List.cons_ne_nil _ _) (all_one (wpOp_run rfl rfl (wp_call 21 #[.string s, .int .i64 10, .int .i64 4] (by go_simp) (.int .i64 en) (fun w' => w' = ((World.drew W0).alloc (.cells #[.int .i64 0, .int .i64 0, .int .i64 0, .int .i64 0, .int .i64 0, .string ⟨#[]⟩] 35))) (N3.out _) (fun w2 hw2 => ?_))))
            subst hw2
            refine wpAny_all (rs := [7]) (by kernel_rfl) (List.cons_ne_nil _ _) (all_one (wpOp_run rfl rfl (wp_call 21 #[.string s, .int .i64 14, .int .i64 4] (by go_simp) (.int .i64 a) (fun w' => w' = ((World.drew W0).alloc (.cells #[.int .i64 0, .int .i64 0, .int .i64 0, .int .i64 0, .int .i64 0, .string ⟨#[]⟩] 35))) (N4.out _) (fun w2 hw2 => ?_))))
            subst hw2
            refine wpAny_all (rs := [9]) (by kernel_rfl) (List.cons_ne_nil _ _) (all_one (wpOp_run rfl rfl (wp_call 21 #[.string s, .int .i64 18, .int .i64 4] (by go_simp) (.int .i64 l) (fun w' => w' = ((World.drew W0).alloc (.cells #[.int .i64 0, .int .i64 0, .int .i64 0, .int .i64 0, .int .i64 0, .string ⟨#[]⟩] 35))) (N5.out _) (fun w2 hw2 => ?_))))
            subst hw2
            refine wpAny_take (i := 12) (v := .agg #[.int .i64 v, .int .i64 sg, .int .i64 en, .int .i64 a, .int .i64 l, .string ⟨ky.toArray⟩]) rfl (by kernel_rfl) (by kernel_rfl) (by kernel_rfl) (fun _ _ _ h => h) (Or.inl ⟨by rfl, by intro w; go_simp⟩) ?_
            refine wpAny_all (rs := [14]) (by kernel_rfl) (List.cons_ne_nil _ _) (all_one (wpOp_store_mid (by rfl) (by rfl) 35 (.tmp 4) (.tmp 25) (by rfl) (w.heap.size + 1) 0 (headV v sg en a l ky).toArray (by go_simp) (by go_simp; rfl) HT.out (by kernel_rfl) (by kernel_rfl) (by rfl) ?_))
            refine wpAny_done (by kernel_rfl) ?_ _
            go_wp2_with fail
            go_meet
            case rel => exact ⟨rfl, HW.out⟩
        · skip
          refine wpAny_all (rs := [1]) (by kernel_rfl) (List.cons_ne_nil _ _) (all_one (wpOp_run rfl rfl (wp_call 21 #[.string s, .int .i64 4, .int .i64 2] (by go_simp) (.int .i64 v) (fun w' => w' = ((World.drew W0).alloc (.cells #[.int .i64 0, .int .i64 0, .int .i64 0, .int .i64 0, .int .i64 0, .string ⟨#[]⟩] 35))) (N1.out _) (fun w2 hw2 => ?_))))
          subst hw2
          refine wpAny_all (rs := [3]) (by kernel_rfl) (List.cons_ne_nil _ _) (all_one (wpOp_run rfl rfl (wp_call 21 #[.string s, .int .i64 6, .int .i64 4] (by go_simp) (.int .i64 sg) (fun w' => w' = ((World.drew W0).alloc (.cells #[.int .i64 0, .int .i64 0, .int .i64 0, .int .i64 0, .int .i64 0, .string ⟨#[]⟩] 35))) (N2.out _) (fun w2 hw2 => ?_))))
          subst hw2
          refine wpAny_all (rs := [5]) (by kernel_rfl) (List.cons_ne_nil _ _) (all_one (wpOp_run rfl rfl (wp_call 21 #[.string s, .int .i64 10, .int .i64 4] (by go_simp) (.int .i64 en) (fun w' => w' = ((World.drew W0).alloc (.cells #[.int .i64 0, .int .i64 0, .int .i64 0, .int .i64 0, .int .i64 0, .string ⟨#[]⟩] 35))) (N3.out _) (fun w2 hw2 => ?_))))
          subst hw2
          refine wpAny_all (rs := [7]) (by kernel_rfl) (List.cons_ne_nil _ _) (all_one (wpOp_run rfl rfl (wp_call 21 #[.string s, .int .i64 14, .int .i64 4] (by go_simp) (.int .i64 a) (fun w' => w' = ((World.drew W0).alloc (.cells #[.int .i64 0, .int .i64 0, .int .i64 0, .int .i64 0, .int .i64 0, .string ⟨#[]⟩] 35))) (N4.out _) (fun w2 hw2 => ?_))))
          subst hw2
          refine wpAny_all (rs := [9]) (by kernel_rfl) (List.cons_ne_nil _ _) (all_one (wpOp_run rfl rfl (wp_call 21 #[.string s, .int .i64 18, .int .i64 4] (by go_simp) (.int .i64 l) (fun w' => w' = ((World.drew W0).alloc (.cells #[.int .i64 0, .int .i64 0, .int .i64 0, .int .i64 0, .int .i64 0, .string ⟨#[]⟩] 35))) (N5.out _) (fun w2 hw2 => ?_))))
          subst hw2
          refine wpAny_take (i := 12) (v := .agg #[.int .i64 v, .int .i64 sg, .int .i64 en, .int .i64 a, .int .i64 l, .string ⟨ky.toArray⟩]) rfl (by kernel_rfl) (by kernel_rfl) (by kernel_rfl) (fun _ _ _ h => h) (Or.inl ⟨by rfl, by intro w; go_simp⟩) ?_
          refine wpAny_all (rs := [14]) (by kernel_rfl) (List.cons_ne_nil _ _) (all_one (wpOp_store_mid (by rfl) (by rfl) 35 (.tmp 4) (.tmp 25) (by rfl) (w.heap.size + 1) 0 (headV v sg en a l ky).toArray (by go_simp) (by go_simp; rfl) HT.out (by kernel_rfl) (by kernel_rfl) (by rfl) ?_))
          refine wpAny_done (by kernel_rfl) ?_ _
          go_wp2_with fail
          go_meet
          case rel => exact ⟨rfl, HW.out⟩
      case rest =>
        obtain ⟨rfl, hM⟩ := hcut
        have HW : Hid _ := hM
        have HTz : Hid (wc.there w.heap.size 0 headZ.toArray.size) := hM.there
        have HTl : Hid (wc.there w.heap.size 0 headZ.length) := hM.there
        have HUz : Hid (wc.there w.heap.size 0 (headV v sg en a l ky).toArray.size) := hM.there
        have HUl : Hid (wc.there w.heap.size 0 (headV v sg en a l ky).length) := hM.there
        have HR : Hid (wc.rangeAt (w.heap.size + 1) 0 (headV v sg en a l ky)) := hM.row
        have f1 : wc.cell? ⟨w.heap.size + 1, 1, none⟩ = some (.int .i64 sg) := hM.row 1 _ rfl
        have f2 : wc.cell? ⟨w.heap.size + 1, 2, none⟩ = some (.int .i64 en) := hM.row 2 _ rfl
        have f3 : wc.cell? ⟨w.heap.size + 1, 3, none⟩ = some (.int .i64 a) := hM.row 3 _ rfl
        have f4 : wc.cell? ⟨w.heap.size + 1, 4, none⟩ = some (.int .i64 l) := hM.row 4 _ rfl
        clear N1 N2 N3 N4 N5 ht4 h2b hk h1 h1i h1' hsl hs0 hb0 ht0 hM
        have hw := wrap_small (a + l) (by omega) (by omega)
        by_cases c1 : sg < 78
        · have hG : headG v sg en a l ky = (headZ, 5) := by rw [headG, if_pos (by omega)]
          go_wp2_with (refine wpList_store_mid rfl 35 (.tmp 2) (.tmp 49) rfl w.heap.size 0 headZ.toArray rfl rfl HTz.out (by kernel_rfl) (by kernel_rfl) ?_)
          exact bodyPost_ret (v := .tuple #[.agg headZ.toArray, .int .i64 5]) (results_cell_tmp (p := 2) (q := 3) (ty := 35) (by kernel_rfl) _ _ w.heap.size 0 headZ _ _ rfl (World.rangeAt_setCells_same _ _ _ _ HTl.out) rfl Try.underlying35 rfl (by kernel_rfl)) rfl ⟨by first | rw [hG] | rfl, below_setCells (Nat.le_refl _) _ _ _ _ HW.out.below⟩
        · have c1' : ¬ sg < 78 := c1
          by_cases c2 : 8192 < sg
          · have hG : headG v sg en a l ky = (headZ, 5) := by rw [headG, if_pos (by omega)]
            go_wp2_with (refine wpList_store_mid rfl 35 (.tmp 2) (.tmp 49) rfl w.heap.size 0 headZ.toArray rfl rfl HTz.out (by kernel_rfl) (by kernel_rfl) ?_)
            exact bodyPost_ret (v := .tuple #[.agg headZ.toArray, .int .i64 5]) (results_cell_tmp (p := 2) (q := 3) (ty := 35) (by kernel_rfl) _ _ w.heap.size 0 headZ _ _ rfl (World.rangeAt_setCells_same _ _ _ _ HTl.out) rfl Try.underlying35 rfl (by kernel_rfl)) rfl ⟨by first | rw [hG] | rfl, below_setCells (Nat.le_refl _) _ _ _ _ HW.out.below⟩
          · have c2' : ¬ 8192 < sg := c2
            by_cases c3 : a < sg
            · have hG : headG v sg en a l ky = (headZ, 5) := by rw [headG, if_pos (by omega)]
              go_wp2_with (refine wpList_store_mid rfl 35 (.tmp 2) (.tmp 49) rfl w.heap.size 0 headZ.toArray rfl rfl HTz.out (by kernel_rfl) (by kernel_rfl) ?_)
              exact bodyPost_ret (v := .tuple #[.agg headZ.toArray, .int .i64 5]) (results_cell_tmp (p := 2) (q := 3) (ty := 35) (by kernel_rfl) _ _ w.heap.size 0 headZ _ _ rfl (World.rangeAt_setCells_same _ _ _ _ HTl.out) rfl Try.underlying35 rfl (by kernel_rfl)) rfl ⟨by first | rw [hG] | rfl, below_setCells (Nat.le_refl _) _ _ _ _ HW.out.below⟩
            · have c3' : ¬ a < sg := c3
              by_cases c4 : 8192 < a + l
              · have hG : headG v sg en a l ky = (headZ, 5) := by rw [headG, if_pos (by omega)]
                go_wp2_with (refine wpList_store_mid rfl 35 (.tmp 2) (.tmp 49) rfl w.heap.size 0 headZ.toArray rfl rfl HTz.out (by kernel_rfl) (by kernel_rfl) ?_)
                exact bodyPost_ret (v := .tuple #[.agg headZ.toArray, .int .i64 5]) (results_cell_tmp (p := 2) (q := 3) (ty := 35) (by kernel_rfl) _ _ w.heap.size 0 headZ _ _ rfl (World.rangeAt_setCells_same _ _ _ _ HTl.out) rfl Try.underlying35 rfl (by kernel_rfl)) rfl ⟨by first | rw [hG] | rfl, below_setCells (Nat.le_refl _) _ _ _ _ HW.out.below⟩
              · have c4' : ¬ 8192 < a + l := c4
                have hE : ¬ (sg < 78 ∨ 8192 < sg ∨ a < sg ∨ 8192 < a + l) := by omega
                by_cases d1 : en % 4 ≠ 0
                · have hG : headG v sg en a l ky = (headZ, 6) := by rw [headG, if_neg hE, if_pos (by omega)]
                  have d1b : (en % 4 == 0) = false := by rw [beq_eq_false_iff_ne]; exact d1
                  go_wp2_with (refine wpList_store_mid rfl 35 (.tmp 2) (.tmp 66) rfl w.heap.size 0 headZ.toArray rfl rfl HTz.out (by kernel_rfl) (by kernel_rfl) ?_)
                  exact bodyPost_ret (v := .tuple #[.agg headZ.toArray, .int .i64 6]) (results_cell_tmp (p := 2) (q := 3) (ty := 35) (by kernel_rfl) _ _ w.heap.size 0 headZ _ _ rfl (World.rangeAt_setCells_same _ _ _ _ HTl.out) rfl Try.underlying35 rfl (by kernel_rfl)) rfl ⟨by first | rw [hG] | rfl, below_setCells (Nat.le_refl _) _ _ _ _ HW.out.below⟩
                · have d1b : (en % 4 == 0) = true := by rw [beq_iff_eq]; omega
                  by_cases d2 : en < 78
                  · have hG : headG v sg en a l ky = (headZ, 6) := by rw [headG, if_neg hE, if_pos (by omega)]
                    go_wp2_with (refine wpList_store_mid rfl 35 (.tmp 2) (.tmp 66) rfl w.heap.size 0 headZ.toArray rfl rfl HTz.out (by kernel_rfl) (by kernel_rfl) ?_)
                    exact bodyPost_ret (v := .tuple #[.agg headZ.toArray, .int .i64 6]) (results_cell_tmp (p := 2) (q := 3) (ty := 35) (by kernel_rfl) _ _ w.heap.size 0 headZ _ _ rfl (World.rangeAt_setCells_same _ _ _ _ HTl.out) rfl Try.underlying35 rfl (by kernel_rfl)) rfl ⟨by first | rw [hG] | rfl, below_setCells (Nat.le_refl _) _ _ _ _ HW.out.below⟩
                  · have d2' : ¬ en < 78 := d2
                    by_cases d3 : sg ≤ en
                    · have hG : headG v sg en a l ky = (headZ, 6) := by rw [headG, if_neg hE, if_pos (by omega)]
                      go_wp2_with (refine wpList_store_mid rfl 35 (.tmp 2) (.tmp 66) rfl w.heap.size 0 headZ.toArray rfl rfl HTz.out (by kernel_rfl) (by kernel_rfl) ?_)
                      exact bodyPost_ret (v := .tuple #[.agg headZ.toArray, .int .i64 6]) (results_cell_tmp (p := 2) (q := 3) (ty := 35) (by kernel_rfl) _ _ w.heap.size 0 headZ _ _ rfl (World.rangeAt_setCells_same _ _ _ _ HTl.out) rfl Try.underlying35 rfl (by kernel_rfl)) rfl ⟨by first | rw [hG] | rfl, below_setCells (Nat.le_refl _) _ _ _ _ HW.out.below⟩
                    · have d3' : ¬ sg ≤ en := d3
                      have hG : headG v sg en a l ky = (headV v sg en a l ky, 0) := by rw [headG, if_neg hE, if_neg (by omega)]
                      go_wp2_with (first
                        | refine wpList_load_mid rfl 35 (.tmp 4) rfl (w.heap.size + 1) 0 rfl (headV v sg en a l ky) _ HR.out Try.underlying35 rfl (by kernel_rfl) ?_
                        | refine wpList_store_mid rfl 35 (.tmp 2) (.tmp 67) rfl w.heap.size 0 (headV v sg en a l ky).toArray rfl rfl HUz.out (by kernel_rfl) (by kernel_rfl) ?_)
                      exact bodyPost_ret (v := .tuple #[.agg (headV v sg en a l ky).toArray, .int .i64 0]) (results_cell_tmp (p := 2) (q := 3) (ty := 35) (by kernel_rfl) _ _ w.heap.size 0 (headV v sg en a l ky) _ _ rfl (World.rangeAt_setCells_same _ _ _ _ HUl.out) rfl Try.underlying35 rfl (by kernel_rfl)) rfl ⟨by first | rw [hG] | rfl, below_setCells (Nat.le_refl _) _ _ _ _ HW.out.below⟩

end Go.Proofs.Ytkmoglhgkcnalaa
