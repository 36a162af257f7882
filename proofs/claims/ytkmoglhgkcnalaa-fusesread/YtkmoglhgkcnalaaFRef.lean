/- Plain functions of the fuses: the reference's. -/
import Derived.Test.YtkmoglhgkcnalaaFLeast
namespace Go.Proofs.Ytkmoglhgkcnalaa
open Go.RowKit

set_option maxRecDepth 100000 in
set_option maxHeartbeats 400000 in
theorem refWords_any (l : List Int) (b off cap : Nat) (w : World) (hr : w.rangeAt b off (cellsI l)) (hl : l.length ≤ 9223372036854775807) :
    Calls Try.prog 14 #[.slice (some ⟨b, off, none⟩) l.length cap] w fun e w' => e = .returned (.bool (areB l)) ∧ w' = w := by
  have Hr : Hid _ := hr
  clear hr
  by_cases h85 : l.length = 85
  · have hb : ((l.length : Int) == 85) = true := by rw [h85]; rfl
    have HL : Hid (l.length = 85) := h85
    have hle : (l.length : Int) ≤ 85 := by omega
    clear h85
    go_enter Try.func14, Try.ntmps14
    go_wp2
    go_loop [3] (fun x => ∃ k : Nat, k ≤ l.length ∧ x = .int .i64 k ∧ (l.take k).all wordB = true) (fun x => l.length - (intOf x).toNat)
    case atStart => exact ⟨0, Nat.zero_le _, rfl, rfl⟩
    case round =>
      obtain ⟨k, hk, rfl, hall⟩ := hrel
      by_cases hlt : k < l.length
      · have hlt' : (k : Int) < (l.length : Int) := by omega
        have hc := rangeI Hr.out k hlt
        have HT : Hid (l.take (k + 1) = l.take k ++ [l.getD k 0]) := by
          show l.take (k + 1) = _
          rw [List.take_succ_eq_append_getElem hlt, List.getD_eq_getElem?_getD, List.getElem?_eq_getElem hlt]; rfl
        have HF : Hid (wordB (l.getD k 0) = false → areB l = false) := by
          intro h
          rw [areB, Bool.and_eq_false_iff]
          refine .inr ?_
          rw [List.all_eq_false]
          exact ⟨l[k], List.getElem_mem hlt, by rw [List.getD_eq_getElem?_getD, List.getElem?_eq_getElem hlt] at h; simpa using h⟩
        have HA : Hid _ := hall
        generalize l.getD k 0 = x at *
        clear hall
        by_cases hx0 : x < 0
        · go_wp2_with fail
          go_ret
          exact ⟨by rw [HF.out (by simp [wordB]; omega)]; rfl, rfl⟩
        · by_cases hx1 : 65535 < x
          · go_wp2_with fail
            go_ret
            exact ⟨by rw [HF.out (by simp [wordB]; omega)]; rfl, rfl⟩
          · have hx0' : ¬ x < 0 := hx0
            have hx1' : ¬ 65535 < x := hx1
            go_wp2_with fail
            go_round
            case rel => exact ⟨k + 1, by omega, by go_num, by rw [HT.out, List.all_append, HA.out]; simp [wordB]; omega⟩
            case measure => simp [intOf]; omega
      · have hkl : k = l.length := by omega
        subst hkl
        have hlt' : ¬ (l.length : Int) < (l.length : Int) := by omega
        have HA : Hid (areB l = true) := by
          show areB l = true
          rw [areB, Bool.and_eq_true]
          exact ⟨by rw [HL.out]; rfl, by rwa [List.take_length] at hall⟩
        clear hall
        go_wp2_with fail
        go_ret
        exact ⟨by rw [HA.out]; rfl, rfl⟩
  · have hb : ((l.length : Int) == 85) = false := by rw [beq_eq_false_iff_ne]; omega
    have HA : Hid (areB l = false) := by
      show areB l = false
      rw [areB, Bool.and_eq_false_iff]
      exact .inl (by rw [beq_eq_false_iff_ne]; exact h85)
    go_enter Try.func14, Try.ntmps14
    go_wp2
    go_ret
    exact ⟨by rw [HA.out]; rfl, rfl⟩

/-- what two words say: 1: On; 0: Off; -1: they are not right -/
def saidF (a b : Int) : Int := if a = b then (if a = 4080 then 1 else if a = 61455 then 0 else -1) else -1
set_option maxHeartbeats 400000 in
theorem said_any (a b : Int) (w : World) : Calls Try.prog 16 #[.int .i64 a, .int .i64 b] w fun e w' => e = .returned (.int .i64 (saidF a b)) ∧ w' = w := by
  by_cases h1 : a = b
  · subst h1
    by_cases h2 : a = 4080
    · subst h2
      go_enter Try.func16, Try.ntmps16
      go_wp2
      go_ret
      exact ⟨rfl, rfl⟩
    · have b2 : (a == 4080) = false := by rw [beq_eq_false_iff_ne]; exact h2
      by_cases h3 : a = 61455
      · subst h3
        go_enter Try.func16, Try.ntmps16
        go_wp2
        go_ret
        exact ⟨rfl, rfl⟩
      · have b3 : (a == 61455) = false := by rw [beq_eq_false_iff_ne]; exact h3
        have HS : Hid (saidF a a = -1) := by show saidF a a = -1; simp [saidF, h2, h3]
        go_enter Try.func16, Try.ntmps16
        go_wp2
        go_ret
        exact ⟨by rw [HS.out]; rfl, rfl⟩
  · have b1 : (a == b) = false := by rw [beq_eq_false_iff_ne]; exact h1
    have HS : Hid (saidF a b = -1) := by show saidF a b = -1; simp [saidF, h1]
    go_enter Try.func16, Try.ntmps16
    go_wp2
    go_ret
    exact ⟨by rw [HS.out]; rfl, rfl⟩

theorem bit_nat (a k : Nat) (ha : a < 65536) : bits .and .i64 ((a : Int) / 2 ^ k) 1 = ((a.testBit k).toNat : Int) := by
  have e : (a : Int) / 2 ^ k = ((a / 2 ^ k : Nat) : Int) := by rw [Int.natCast_ediv, Int.natCast_pow]; rfl
  have hl : a / 2 ^ k ≤ a := Nat.div_le_self _ _
  rw [e]
  have h := i64_and_nat (a / 2 ^ k) 1 (by omega) (by omega)
  rw [show ((1 : Nat) : Int) = 1 from rfl] at h
  rw [h, show (1 : Nat) = 2 ^ 1 - 1 from rfl, Nat.and_two_pow_sub_one_eq_mod, Nat.testBit_eq_decide_div_mod_eq]
  have := Nat.mod_two_eq_zero_or_one (a / 2 ^ k)
  rcases this with h2 | h2 <;> simp [h2]
theorem ones_nat (a b c k : Nat) (ha : a < 65536) (hb : b < 65536) (hc : c < 65536) :
    wrap64 (wrap64 (bits .and .i64 ((a : Int) / 2 ^ k) 1 + bits .and .i64 ((b : Int) / 2 ^ k) 1) + bits .and .i64 ((c : Int) / 2 ^ k) 1) = (((a.testBit k).toNat + (b.testBit k).toNat + (c.testBit k).toNat : Nat) : Int) := by
  rw [bit_nat a k ha, bit_nat b k hb, bit_nat c k hc]
  cases a.testBit k <;> cases b.testBit k <;> cases c.testBit k <;> decide +kernel
theorem maj_bit (a b c k : Nat) : (majN a b c).testBit k = decide (2 ≤ (a.testBit k).toNat + (b.testBit k).toNat + (c.testBit k).toNat) := by
  rw [majN, Nat.testBit_or, Nat.testBit_or, Nat.testBit_and, Nat.testBit_and, Nat.testBit_and]
  cases a.testBit k <;> cases b.testBit k <;> cases c.testBit k <;> rfl
theorem refL_step (M k n : Nat) (ended : Bool) (hk : k < 16) : refL M (16 - k) n ended = if M.testBit k then (if ended then -1 else refL M (16 - (k + 1)) (n + 1) false) else refL M (16 - (k + 1)) n true := by
  obtain ⟨j, hj⟩ : ∃ j, 16 - k = j + 1 := ⟨16 - k - 1, by omega⟩
  rw [hj, show 16 - (k + 1) = j from by omega, refL, show 16 - (j + 1) = k from by omega]

set_option maxRecDepth 100000 in
set_option maxHeartbeats 400000 in
theorem least_any (a b c : Nat) (w : World) (ha : a < 65536) (hb : b < 65536) (hc : c < 65536) :
    Calls Try.prog 15 #[.int .i64 (a : Int), .int .i64 (b : Int), .int .i64 (c : Int)] w fun e w' => e = .returned (.int .i64 (lF (majN a b c))) ∧ ∃ n, w' = w.drewN n := by
  go_enter Try.func15, Try.ntmps15
  go_wp2
  go_loopw [7, 8, 9] (fun x y z wr => ∃ (k n d : Nat) (ended : Bool), k ≤ 16 ∧ n ≤ k ∧ z = .int .i64 k ∧ x = .int .i64 n ∧ y = .bool ended ∧ lF (majN a b c) = refL (majN a b c) (16 - k) n ended ∧ wr = w.drewN d) (fun _ _ z _ => 16 - (intOf z).toNat)
  case atStart => exact ⟨0, 0, 0, false, by omega, by omega, rfl, rfl, rfl, rfl, rfl⟩
  case round =>
    obtain ⟨k, n, d, ended, hk, hn, rfl, rfl, rfl, hL, rfl⟩ := hrel
    by_cases hlt : k < 16
    · have hlt' : (k : Int) < 16 := by omega
      have e1 : min k 64 = k := by omega
      have HO : Hid _ := ones_nat a b c k ha hb hc
      rw [refL_step _ _ _ _ hlt, maj_bit] at hL
      go_wp2_with fail
      go_quiet (fail)
      rw [HO.out]
      generalize (a.testBit k).toNat + (b.testBit k).toNat + (c.testBit k).toNat = S at *
      by_cases hS : 2 ≤ S
      · have hS' : (2 : Int) ≤ (S : Int) := by omega
        rw [decide_eq_true hS] at hL
        cases ended with
        | true =>
          have HL : Hid (lF (majN a b c) = -1) := by show lF (majN a b c) = -1; simpa using hL
          clear hL
          go_wp2_with fail
          go_ret
          exact ⟨by rw [HL.out]; rfl, _, rfl⟩
        | false =>
          have HL : Hid (lF (majN a b c) = refL (majN a b c) (16 - (k + 1)) (n + 1) false) := by show lF (majN a b c) = refL (majN a b c) (16 - (k + 1)) (n + 1) false; simpa using hL
          clear hL
          go_wp2_with fail
          go_roundw
          case rel => exact ⟨k + 1, n + 1, _, false, by omega, by omega, by go_num, by go_num, rfl, HL.out, rfl⟩
          case measure => simp [intOf]; omega
      · have hS' : ¬ (2 : Int) ≤ (S : Int) := by omega
        rw [decide_eq_false hS] at hL
        have HL : Hid (lF (majN a b c) = refL (majN a b c) (16 - (k + 1)) n true) := by show lF (majN a b c) = refL (majN a b c) (16 - (k + 1)) n true; simpa using hL
        clear hL
        go_wp2_with fail
        go_roundw
        case rel => exact ⟨k + 1, n, _, true, by omega, by omega, by go_num, rfl, rfl, HL.out, rfl⟩
        case measure => simp [intOf]; omega
    · have hk16 : k = 16 := by omega
      subst hk16
      have hlt' : ¬ ((16 : Nat) : Int) < 16 := by decide
      have HL : Hid (lF (majN a b c) = (n : Int)) := hL
      clear hL
      go_wp2_with fail
      go_ret
      exact ⟨by rw [HL.out]; rfl, _, rfl⟩

theorem octF_get (k : Nat) : ∀ n i, i < k → (octF n k)[i]? = some (UInt8.ofNat (n / 256 ^ (k - 1 - i))) := by
  induction k with
  | zero => intro n i h; omega
  | succ k ih =>
    intro n i h
    rw [octF_cons]
    cases i with
    | zero => simp
    | succ i => rw [List.getElem?_cons_succ, ih n i (by omega), show k + 1 - 1 - (i + 1) = k - 1 - i from by omega]

/-- a number's bytes in the making: the first k of n -/
def uC (v n k : Nat) : List Value := cellsB ((octF v n).take k) ++ List.replicate (n - k) (.int .u8 0)
theorem uC_length (v n k : Nat) (h : k ≤ n) : (uC v n k).length = n := by simp [uC, cellsB, octF_length]; omega
theorem uC_start (v n : Nat) : uC v n 0 = List.replicate n (.int .u8 0) := by simp [uC, cellsB]
theorem uC_end (v n : Nat) : uC v n n = cellsB (octF v n) := by simp [uC, List.take_of_length_le, octF_length]
theorem uC_get (v n k : Nat) (h : k < n) : (uC v n k)[k]? = some (.int .u8 0) := by
  rw [uC, List.getElem?_append_right (by simp [cellsB, octF_length]; omega), List.getElem?_replicate, if_pos (by simp [cellsB, octF_length]; omega)]
theorem uC_set (v n k : Nat) (h : k < n) (x : Int) (hx : x = ((UInt8.ofNat (v / 256 ^ (n - 1 - k))).toNat : Int)) : (uC v n k).set k (.int .u8 x) = uC v n (k + 1) := by
  subst hx
  have hg := octF_get n v k h
  obtain ⟨hl, hg⟩ := List.getElem?_eq_some_iff.1 hg
  rw [uC, uC, show n - k = (n - (k + 1)) + 1 from by omega, List.replicate_succ, List.take_succ_eq_append_getElem hl, hg, cellsB, cellsB, List.map_append, List.set_append_right _ _ (by simp [octF_length]; omega)]
  simp only [List.length_map, List.length_take, octF_length, show min k n = k from by omega, Nat.sub_self, List.set_cons_zero, List.map_cons, List.map_nil, List.append_assoc, List.singleton_append]
theorem u_val (v m : Nat) : (v : Int) / 2 ^ (8 * m) % 256 = ((UInt8.ofNat (v / 256 ^ m)).toNat : Int) := by
  have e : (2 : Int) ^ (8 * m) = ((256 ^ m : Nat) : Int) := by rw [Int.pow_mul, Int.natCast_pow]; rfl
  rw [e, ← Int.natCast_ediv]
  simp

set_option maxRecDepth 100000 in
set_option maxHeartbeats 400000 in
theorem refU_any (v n : Nat) (w : World) (hn : n ≤ 8) : Calls Try.prog 17 #[.int .i64 (v : Int), .int .i64 (n : Int)] w fun e w' => e = .returned (.string ⟨(octF v n).toArray⟩) ∧ Below w.heap.size w w' := by
  have hmk := fun w => run_make_row' (P := Try.prog) 46 5 (.int .u8 0) 1 Try.underlying46 Try.info5 rfl .i64 .i64 n (by omega) (by omega) w
  go_enter Try.func17, Try.ntmps17
  go_wp2_with fail
  go_loopw [6] (fun x wr => ∃ k : Nat, k ≤ n ∧ x = .int .i64 k ∧ wr = w.alloc (.cells (uC v n k).toArray 5)) (fun x _ => n - (intOf x).toNat)
  case atStart => exact ⟨0, by omega, rfl, by rw [uC_start, madeCells_one]⟩
  case round =>
    clear hmk
    obtain ⟨k, hk, rfl, rfl⟩ := hrel
    by_cases hlt : k < n
    · have hlt' : (k : Int) < (n : Int) := by omega
      have hg := uC_get v n k hlt
      have hln := uC_length v n k hk
      obtain ⟨m, hm⟩ : ∃ m, m = n - 1 - k := ⟨_, rfl⟩
      have hmi : (n : Int) - 1 - (k : Int) = (m : Int) := by omega
      have Hv : Hid ((v : Int) / 2 ^ (8 * m) % 256 = ((UInt8.ofNat (v / 256 ^ (n - 1 - k))).toNat : Int)) := by
        show _ = _
        rw [← hm]; exact u_val v m
      have e1 : min (8 * m) 64 = 8 * m := by omega
      have b0 : (0 : Int) ≤ 8 * (m : Int) := by omega
      clear hm
      go_wp2_with fail
      go_roundw
      case rel => exact ⟨k + 1, by omega, by go_num, by rw [uC_set v n k hlt _ Hv.out]⟩
      case measure => simp [intOf]; omega
    · have hkn : k = n := by omega
      subst hkn
      have hlt' : ¬ (k : Int) < (k : Int) := by omega
      rw [uC_end]
      have hcv := run_convert_bytes_back (P := Try.prog) (w.alloc (.cells (cellsB (octF v k)).toArray 5)) 46 9 5 ⟨w.heap.size, 0, none⟩ k (octF v k) Try.underlying46 Try.underlying5 Try.underlying9
        (fun j hj => by rw [Addr.add_mid, World.cell?_alloc_at _ _ _ _ rfl]; simp [cellsB, hj])
      rw [octF_length] at hcv
      generalize hL : octF v k = L at *
      have HL : Hid (octF v k = L) := hL
      clear hL
      go_wp2_with fail
      go_ret
      exact ⟨ret_str HL.out.symm, (Below.refl _ _).alloc (Nat.le_refl _) _⟩

end Go.Proofs.Ytkmoglhgkcnalaa
