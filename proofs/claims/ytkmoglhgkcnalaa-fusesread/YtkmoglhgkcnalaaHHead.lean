/- The two Heads: what an image's head says. -/
import Derived.Test.YtkmoglhgkcnalaaHNum
import Derived.Test.YtkmoglhgkcnalaaShelf
import Derived.StillTailTactics
namespace Go.Proofs.Ytkmoglhgkcnalaa
open Go.RowKit

theorem results_cell_tmp {P : Program} {fn : Func} {p q : Tmp} {ty : TypeId} (h : fn.results = #[.cell p ty, .tmp q]) (tmps : Array Value) (w : World) (b o : Nat) (cs : List Value) (d : TypeDesc) (v : Value)
    (hp : tmps.getD p undef = .pointer (some ⟨b, o, none⟩)) (hc : w.rangeAt b o cs) (hv : tmps.getD q undef = v)
    (hu : P.underlying ty = some d) (hd : d.isRow = true) (hi : (P.info? ty).map (·.size) = some cs.length) :
    (results fn tmps).run P w = .ok (.tuple #[.agg cs.toArray, v]) w := by
  have hp' : tmps[p]?.getD undef = .pointer (some ⟨b, o, none⟩) := by simpa using hp
  have hv' : tmps[q]?.getD undef = v := by simpa using hv
  simp [results, h, hp', hv', asAddr, run_loadVar_mid w b o ty cs d hc hu hd hi]

/-- some bytes of a text -/
def cutL (L : List UInt8) (a b : Nat) : List UInt8 := (L.take b).drop a
theorem cut_str (s : ByteArray) (a b : Nat) : s.extract a b = ⟨(cutL s.data.toList a b).toArray⟩ := by
  obtain ⟨⟨l⟩⟩ := s
  apply ByteArray.ext
  simp [cutL, List.drop_take, List.extract]
theorem cutL_length (L : List UInt8) (a b : Nat) (h : b ≤ L.length) : (cutL L a b).length = b - a := by simp [cutL]; omega

/-- the cells of a head -/
def headV (v s e a l : Int) (k : List UInt8) : List Value := [.int .i64 v, .int .i64 s, .int .i64 e, .int .i64 a, .int .i64 l, .string ⟨k.toArray⟩]
def headZ : List Value := headV 0 0 0 0 0 []
/-- what the numbers of a head say -/
def headG (v sg en a l : Int) (k : List UInt8) : List Value × Int :=
  if sg < 78 ∨ 8192 < sg ∨ a < sg ∨ 8192 < a + l then (headZ, 5) else
  if en % 4 ≠ 0 ∨ en < 78 ∨ sg ≤ en then (headZ, 6) else
  (headV v sg en a l k, 0)
/-- what the head of a slot says, and the error -/
def headF (L : List UInt8) : List Value × Int :=
  if L.length < 8192 then (headZ, 3) else
  if L.take 4 ≠ [76, 78, 84, 76] then (headZ, 4) else
  headG (numF (cutL L 4 6)) (numF (cutL L 6 10)) (numF (cutL L 10 14)) (numF (cutL L 14 18)) (numF (cutL L 18 22)) (cutL L 22 78)

theorem headF_cases (L : List UInt8) : (headF L).1 = headZ ∨ ∃ v sg en a l k, (headF L).1 = headV v sg en a l k := by
  unfold headF
  split
  · exact .inl rfl
  · split
    · exact .inl rfl
    · unfold headG
      split
      · exact .inl rfl
      · split
        · exact .inl rfl
        · exact .inr ⟨_, _, _, _, _, _, rfl⟩
theorem headF_len (L : List UInt8) : (headF L).1.length = 6 := by
  rcases headF_cases L with h | ⟨v, sg, en, a, l, k, h⟩ <;> rw [h] <;> rfl
theorem headF_one (L : List UInt8) : ∀ v ∈ (headF L).1, v.oneCell' = true := by
  rcases headF_cases L with h | ⟨v, sg, en, a, l, k, h⟩
  · rw [h]; intro v hv; simp [headZ, headV] at hv; rcases hv with rfl | rfl <;> rfl
  · rw [h]; intro v hv; simp [headV] at hv; rcases hv with rfl | rfl | rfl | rfl | rfl | rfl <;> rfl

theorem clone_any (s : ByteArray) (w : World) (hlim : s.size ≤ 281474976710656) : Calls Try.prog 30 #[.string s] w fun e w' => e = .returned (.string s) ∧ Below w.heap.size w w' := by
  go_enter Try.func30, Try.ntmps30
  go_wp2_with (go_at_call 38; refine (Try.stringslite_Clone s _ hlim).mono ?_; rintro e w' ⟨rfl, hb⟩)
  go_ret
  exact ⟨rfl, hb⟩

set_option maxRecDepth 100000 in
set_option maxHeartbeats 400000 in
theorem head_any (s : ByteArray) (w : World) (hs : s.size ≤ 140737488355328) :
    Calls Try.prog 20 #[.string s] w fun e w' => e = .returned (.tuple #[.agg (headF s.data.toList).1.toArray, .int .i64 (headF s.data.toList).2]) ∧ Below w.heap.size w w' := by
  have hsl : s.data.toList.length = s.size := by rw [Array.length_toList]; rfl
  by_cases h1 : s.size < 8192
  · have hF : headF s.data.toList = (headZ, 3) := by rw [headF, if_pos (by rw [hsl]; exact h1)]
    rw [hF]
    have h1' : (s.size : Int) < 8192 := by omega
    go_enter Try.func20, Try.ntmps20
    go_wp2_with fail
    exact bodyPost_ret (v := .tuple #[.agg headZ.toArray, .int .i64 3]) (results_cell_tmp (p := 2) (q := 3) (ty := 35) (by kernel_rfl) _ _ w.heap.size 0 headZ _ _ rfl (range_new _ headZ _ _ rfl) rfl Try.underlying35 rfl (by kernel_rfl)) rfl ⟨rfl, (Below.refl _ _).alloc (Nat.le_refl _) _⟩
  · have h1' : ¬ (s.size : Int) < 8192 := by omega
    have h1i : (8192 : Int) ≤ (s.size : Int) := by omega
    have hcut := fun a b (h : b ≤ 8192) => cutL_length s.data.toList a b (by rw [hsl]; omega)
    have ht4 : s.extract 0 4 = ⟨(s.data.toList.take 4).toArray⟩ := by rw [cut_str]; rfl
    by_cases h2 : s.data.toList.take 4 ≠ [76, 78, 84, 76]
    · have hF : headF s.data.toList = (headZ, 4) := by rw [headF, if_neg (by rw [hsl]; exact h1), if_pos h2]
      rw [hF]
      have h2b : (s.data.toList.take 4 == [76, 78, 84, 76]) = false := by rw [beq_eq_false_iff_ne]; exact h2
      go_enter Try.func20, Try.ntmps20
      go_wp2_with fail
      exact bodyPost_ret (v := .tuple #[.agg headZ.toArray, .int .i64 4]) (results_cell_tmp (p := 2) (q := 3) (ty := 35) (by kernel_rfl) _ _ w.heap.size 0 headZ _ _ rfl (range_new _ headZ _ _ rfl) rfl Try.underlying35 rfl (by kernel_rfl)) rfl ⟨rfl, (Below.refl _ _).alloc (Nat.le_refl _) _⟩
    · have h2e : s.data.toList.take 4 = [76, 78, 84, 76] := Classical.not_not.1 h2
      have h2b : (s.data.toList.take 4 == [76, 78, 84, 76]) = true := by rw [beq_iff_eq]; exact h2e
      rw [show headF s.data.toList = headG (numF (cutL s.data.toList 4 6)) (numF (cutL s.data.toList 6 10)) (numF (cutL s.data.toList 10 14)) (numF (cutL s.data.toList 14 18)) (numF (cutL s.data.toList 18 22)) (cutL s.data.toList 22 78) from by rw [headF, if_neg (by rw [hsl]; exact h1), if_neg h2]]
      have HC : Hid (∀ a b, b ≤ 8192 → (cutL s.data.toList a b).length = b - a) := hcut
      have hb : ∀ a b, b ≤ 8192 → b - a ≤ 4 → 0 ≤ numF (cutL s.data.toList a b) ∧ numF (cutL s.data.toList a b) < 4294967296 := fun a b h h' => numF_lt _ 4 (by rw [hcut a b h]; exact h')
      have q1 := hb 4 6 (by omega) (by omega)
      have q2 := hb 6 10 (by omega) (by omega)
      have q3 := hb 10 14 (by omega) (by omega)
      have q4 := hb 14 18 (by omega) (by omega)
      have q5 := hb 18 22 (by omega) (by omega)
      clear hb hcut h2 h2e
      go_enter Try.func20, Try.ntmps20
      go_wp2_with fail
      rw [cut_str]
      refine (number_any _ _ (by show (cutL s.data.toList 4 6).toArray.size ≤ 8; rw [List.size_toArray, HC.out _ _ (by omega)]; omega)).mono ?_
      rintro e w1 ⟨rfl, rfl⟩
      go_wp2_with fail
      rw [cut_str]
      refine (number_any _ _ (by show (cutL s.data.toList 6 10).toArray.size ≤ 8; rw [List.size_toArray, HC.out _ _ (by omega)]; omega)).mono ?_
      rintro e w1 ⟨rfl, rfl⟩
      go_wp2_with fail
      rw [cut_str]
      refine (number_any _ _ (by show (cutL s.data.toList 10 14).toArray.size ≤ 8; rw [List.size_toArray, HC.out _ _ (by omega)]; omega)).mono ?_
      rintro e w1 ⟨rfl, rfl⟩
      go_wp2_with fail
      rw [cut_str]
      refine (number_any _ _ (by show (cutL s.data.toList 14 18).toArray.size ≤ 8; rw [List.size_toArray, HC.out _ _ (by omega)]; omega)).mono ?_
      rintro e w1 ⟨rfl, rfl⟩
      go_wp2_with fail
      rw [cut_str]
      refine (number_any _ _ (by show (cutL s.data.toList 18 22).toArray.size ≤ 8; rw [List.size_toArray, HC.out _ _ (by omega)]; omega)).mono ?_
      rintro e w1 ⟨rfl, rfl⟩
      rw [show (ByteArray.mk (cutL s.data.toList 18 22).toArray).data.toList = cutL s.data.toList 18 22 from rfl]
      obtain ⟨v, hv⟩ : ∃ v, numF (cutL s.data.toList 4 6) = v := ⟨_, rfl⟩
      obtain ⟨sg, hsg⟩ : ∃ v, numF (cutL s.data.toList 6 10) = v := ⟨_, rfl⟩
      obtain ⟨en, hen⟩ : ∃ v, numF (cutL s.data.toList 10 14) = v := ⟨_, rfl⟩
      obtain ⟨a, ha⟩ : ∃ v, numF (cutL s.data.toList 14 18) = v := ⟨_, rfl⟩
      obtain ⟨l, hl⟩ : ∃ v, numF (cutL s.data.toList 18 22) = v := ⟨_, rfl⟩
      have HH : Hid (headG (numF (cutL s.data.toList 4 6)) (numF (cutL s.data.toList 6 10)) (numF (cutL s.data.toList 10 14)) (numF (cutL s.data.toList 14 18)) (numF (cutL s.data.toList 18 22)) (cutL s.data.toList 22 78) = headG v sg en a l (cutL s.data.toList 22 78)) := by
        show headG _ _ _ _ _ _ = _
        rw [hv, hsg, hen, ha, hl]
      rw [hv, hsg, hen, ha, hl]
      rw [hv] at q1
      rw [hsg] at q2
      rw [hen] at q3
      rw [ha] at q4
      rw [hl] at q5
      clear hv hsg hen ha hl
      obtain ⟨q1a, q1b⟩ := q1
      obtain ⟨q2a, q2b⟩ := q2
      obtain ⟨q3a, q3b⟩ := q3
      obtain ⟨q4a, q4b⟩ := q4
      obtain ⟨q5a, q5b⟩ := q5
      have hw : IntKind.u64.wrap (a + l) = a + l := by rw [IntKind.wrap_u64, Int.emod_eq_of_lt (by omega) (by omega)]
      by_cases c1 : sg < 78
      · have hG : headG v sg en a l (cutL s.data.toList 22 78) = (headZ, 5) := by rw [headG, if_pos (by omega)]
        go_wp2_with fail
        exact bodyPost_ret (v := .tuple #[.agg headZ.toArray, .int .i64 5]) (results_cell_tmp (p := 2) (q := 3) (ty := 35) (by kernel_rfl) _ _ w.heap.size 0 headZ _ _ rfl (range_new _ headZ _ _ rfl) rfl Try.underlying35 rfl (by kernel_rfl)) rfl ⟨by rw [HH.out, hG], (Below.refl _ _).alloc (Nat.le_refl _) _⟩
      · have c1' : ¬ sg < 78 := c1
        by_cases c2 : 8192 < sg
        · have hG : headG v sg en a l (cutL s.data.toList 22 78) = (headZ, 5) := by rw [headG, if_pos (by omega)]
          go_wp2_with fail
          exact bodyPost_ret (v := .tuple #[.agg headZ.toArray, .int .i64 5]) (results_cell_tmp (p := 2) (q := 3) (ty := 35) (by kernel_rfl) _ _ w.heap.size 0 headZ _ _ rfl (range_new _ headZ _ _ rfl) rfl Try.underlying35 rfl (by kernel_rfl)) rfl ⟨by rw [HH.out, hG], (Below.refl _ _).alloc (Nat.le_refl _) _⟩
        · have c2' : ¬ 8192 < sg := c2
          by_cases c3 : a < sg
          · have hG : headG v sg en a l (cutL s.data.toList 22 78) = (headZ, 5) := by rw [headG, if_pos (by omega)]
            go_wp2_with fail
            exact bodyPost_ret (v := .tuple #[.agg headZ.toArray, .int .i64 5]) (results_cell_tmp (p := 2) (q := 3) (ty := 35) (by kernel_rfl) _ _ w.heap.size 0 headZ _ _ rfl (range_new _ headZ _ _ rfl) rfl Try.underlying35 rfl (by kernel_rfl)) rfl ⟨by rw [HH.out, hG], (Below.refl _ _).alloc (Nat.le_refl _) _⟩
          · have c3' : ¬ a < sg := c3
            by_cases c4 : 8192 < a + l
            · have hG : headG v sg en a l (cutL s.data.toList 22 78) = (headZ, 5) := by rw [headG, if_pos (by omega)]
              go_wp2_with fail
              exact bodyPost_ret (v := .tuple #[.agg headZ.toArray, .int .i64 5]) (results_cell_tmp (p := 2) (q := 3) (ty := 35) (by kernel_rfl) _ _ w.heap.size 0 headZ _ _ rfl (range_new _ headZ _ _ rfl) rfl Try.underlying35 rfl (by kernel_rfl)) rfl ⟨by rw [HH.out, hG], (Below.refl _ _).alloc (Nat.le_refl _) _⟩
            · have c4' : ¬ 8192 < a + l := c4
              have hE : ¬ (sg < 78 ∨ 8192 < sg ∨ a < sg ∨ 8192 < a + l) := by omega
              by_cases d1 : en % 4 ≠ 0
              · have hG : headG v sg en a l (cutL s.data.toList 22 78) = (headZ, 6) := by rw [headG, if_neg hE, if_pos (by omega)]
                have d1b : (en % 4 == 0) = false := by rw [beq_eq_false_iff_ne]; exact d1
                go_wp2_with fail
                exact bodyPost_ret (v := .tuple #[.agg headZ.toArray, .int .i64 6]) (results_cell_tmp (p := 2) (q := 3) (ty := 35) (by kernel_rfl) _ _ w.heap.size 0 headZ _ _ rfl (range_new _ headZ _ _ rfl) rfl Try.underlying35 rfl (by kernel_rfl)) rfl ⟨by rw [HH.out, hG], (Below.refl _ _).alloc (Nat.le_refl _) _⟩
              · have d1b : (en % 4 == 0) = true := by rw [beq_iff_eq]; omega
                by_cases d2 : en < 78
                · have hG : headG v sg en a l (cutL s.data.toList 22 78) = (headZ, 6) := by rw [headG, if_neg hE, if_pos (by omega)]
                  go_wp2_with fail
                  exact bodyPost_ret (v := .tuple #[.agg headZ.toArray, .int .i64 6]) (results_cell_tmp (p := 2) (q := 3) (ty := 35) (by kernel_rfl) _ _ w.heap.size 0 headZ _ _ rfl (range_new _ headZ _ _ rfl) rfl Try.underlying35 rfl (by kernel_rfl)) rfl ⟨by rw [HH.out, hG], (Below.refl _ _).alloc (Nat.le_refl _) _⟩
                · have d2' : ¬ en < 78 := d2
                  by_cases d3 : sg ≤ en
                  · have hG : headG v sg en a l (cutL s.data.toList 22 78) = (headZ, 6) := by rw [headG, if_neg hE, if_pos (by omega)]
                    go_wp2_with fail
                    exact bodyPost_ret (v := .tuple #[.agg headZ.toArray, .int .i64 6]) (results_cell_tmp (p := 2) (q := 3) (ty := 35) (by kernel_rfl) _ _ w.heap.size 0 headZ _ _ rfl (range_new _ headZ _ _ rfl) rfl Try.underlying35 rfl (by kernel_rfl)) rfl ⟨by rw [HH.out, hG], (Below.refl _ _).alloc (Nat.le_refl _) _⟩
                  · have d3' : ¬ sg ≤ en := d3
                    have hG : headG v sg en a l (cutL s.data.toList 22 78) = (headV v sg en a l (cutL s.data.toList 22 78), 0) := by rw [headG, if_neg hE, if_neg (by omega)]
                    go_wp2_with fail
                    rw [cut_str]
                    refine (clone_any _ _ (by show (cutL s.data.toList 22 78).toArray.size ≤ _; rw [List.size_toArray, HC.out _ _ (by omega)]; omega)).mono ?_
                    rintro e w1 ⟨rfl, hb1⟩
                    have hth : w1.there w.heap.size 0 6 := there_below hb1 (by simp) (there_new _ _ _ _ _ rfl rfl)
                    have Hb1 : Hid (Below w.heap.size w w1) := ((Below.refl _ _).alloc (Nat.le_refl _) _).trans (hb1.mono (by simp))
                    have y1 : IntKind.i64.wrap v = v := by rw [IntKind.wrap_i64]; omega
                    have y2 : IntKind.i64.wrap sg = sg := by rw [IntKind.wrap_i64]; omega
                    have y3 : IntKind.i64.wrap en = en := by rw [IntKind.wrap_i64]; omega
                    have y4 : IntKind.i64.wrap a = a := by rw [IntKind.wrap_i64]; omega
                    have y5 : IntKind.i64.wrap l = l := by rw [IntKind.wrap_i64]; omega
                    have Hth : Hid (w1.there w.heap.size 0 (headV v sg en a l (cutL s.data.toList 22 78)).toArray.size) := hth
                    clear hb1 hth
                    go_wp2_with (refine wpList_store_mid rfl 35 (.tmp 2) (.tmp 76) rfl w.heap.size 0 (headV v sg en a l (cutL s.data.toList 22 78)).toArray rfl rfl Hth.out (by kernel_rfl) (by kernel_rfl) ?_)
                    exact bodyPost_ret (v := .tuple #[.agg (headV v sg en a l (cutL s.data.toList 22 78)).toArray, .int .i64 0]) (results_cell_tmp (p := 2) (q := 3) (ty := 35) (by kernel_rfl) _ _ w.heap.size 0 (headV v sg en a l (cutL s.data.toList 22 78)) _ _ rfl (World.rangeAt_setCells_same _ _ _ _ Hth.out) rfl Try.underlying35 rfl (by kernel_rfl)) rfl ⟨by rw [HH.out, hG], below_setCells (Nat.le_refl _) _ _ _ _ Hb1.out⟩

end Go.Proofs.Ytkmoglhgkcnalaa
