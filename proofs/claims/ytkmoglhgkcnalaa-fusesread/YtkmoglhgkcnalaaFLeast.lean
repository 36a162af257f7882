/- The least version of fuses. -/
import Derived.Test.YtkmoglhgkcnalaaFPlain
import Derived.Test.YtkmoglhgkcnalaaFBits
namespace Go.Proofs.Ytkmoglhgkcnalaa
open Go.RowKit

/-- what 64 bits hold of ones, as the library reckons it -/
def onesF (x : Int) : Int :=
  let a := IntKind.u64.wrap (bits .and .u64 (x / 2) 6148914691236517205 + bits .and .u64 x 6148914691236517205)
  let b := IntKind.u64.wrap (bits .and .u64 (a / 4) 3689348814741910323 + bits .and .u64 a 3689348814741910323)
  let c := bits .and .u64 (IntKind.u64.wrap (b / 16 + b)) 1085102592571150095
  let d := IntKind.u64.wrap (c + c / 256)
  let e := IntKind.u64.wrap (d + d / 65536)
  let f := IntKind.u64.wrap (e + e / 4294967296)
  bits .and .i64 (wrap64 f) 127

set_option maxRecDepth 100000 in
set_option maxHeartbeats 400000 in
theorem ones64_any (x : Int) (w : World) : Calls Try.prog 40 #[.int .u64 x] w fun e w' => e = .returned (.int .i64 (onesF x)) ∧ w' = w := by
  go_enter Try.func40, Try.ntmps40
  go_wp2
  go_ret
  exact ⟨rfl, rfl⟩
theorem ones_any (x : Int) (w : World) : Calls Try.prog 32 #[.int .u64 x] w fun e w' => e = .returned (.int .i64 (onesF x)) ∧ w' = w := by
  go_enter Try.func32, Try.ntmps32
  go_wp2_with (go_at_call 40; refine (ones64_any x _).mono ?_; rintro e w' ⟨rfl, rfl⟩)
  go_ret
  exact ⟨rfl, rfl⟩
theorem onesF_all : (List.range 17).all (fun n => onesF (2 ^ n - 1) == (n : Int)) = true := by decide +kernel

theorem ofInt_i64 (a : Nat) (ha : a < 9223372036854775808) : (BitVec.ofInt 64 (a : Int)).toNat = a := by
  rw [BitVec.ofInt_natCast, BitVec.toNat_ofNat]; exact Nat.mod_eq_of_lt (by omega)
theorem i64_and_nat (a b : Nat) (ha : a < 9223372036854775808) (hb : b < 9223372036854775808) : bits .and .i64 (a : Int) (b : Int) = ((a &&& b : Nat) : Int) := by
  have hx : a &&& b < 2 ^ 63 := Nat.and_lt_two_pow _ (by omega)
  show IntKind.i64.wrap ((BitVec.ofInt 64 (a : Int) &&& BitVec.ofInt 64 (b : Int)).toNat : Int) = _
  rw [BitVec.toNat_and, ofInt_i64 a ha, ofInt_i64 b hb, IntKind.wrap_i64]
  omega
theorem i64_or_nat (a b : Nat) (ha : a < 9223372036854775808) (hb : b < 9223372036854775808) : bits .or .i64 (a : Int) (b : Int) = ((a ||| b : Nat) : Int) := by
  have hx : a ||| b < 2 ^ 63 := Nat.or_lt_two_pow (by omega) (by omega)
  show IntKind.i64.wrap ((BitVec.ofInt 64 (a : Int) ||| BitVec.ofInt 64 (b : Int)).toNat : Int) = _
  rw [BitVec.toNat_or, ofInt_i64 a ha, ofInt_i64 b hb, IntKind.wrap_i64]
  omega
theorem i64_xor_nat (a b : Nat) (ha : a < 9223372036854775808) (hb : b < 9223372036854775808) : bits .xor .i64 (a : Int) (b : Int) = ((a ^^^ b : Nat) : Int) := by
  have hx : a ^^^ b < 2 ^ 63 := Nat.xor_lt_two_pow (by omega) (by omega)
  show IntKind.i64.wrap ((BitVec.ofInt 64 (a : Int) ^^^ BitVec.ofInt 64 (b : Int)).toNat : Int) = _
  rw [BitVec.toNat_xor, ofInt_i64 a ha, ofInt_i64 b hb, IntKind.wrap_i64]
  omega
/-- the majority of three words, bit by bit -/
def majN (a b c : Nat) : Nat := ((a &&& b) ||| (a &&& c)) ||| (b &&& c)
theorem majN_lt {a b c : Nat} (ha : a < 65536) (hb : b < 65536) : majN a b c < 65536 := by
  have h1 : a &&& b < 2 ^ 16 := Nat.and_lt_two_pow _ hb
  have h2 : a &&& c < 2 ^ 16 := Nat.lt_of_le_of_lt Nat.and_le_left ha
  have h3 : b &&& c < 2 ^ 16 := Nat.lt_of_le_of_lt Nat.and_le_left hb
  exact Nat.or_lt_two_pow (Nat.or_lt_two_pow h1 h2) h3
theorem maj_nat {a b c : Nat} (ha : a < 65536) (hb : b < 65536) (hc : c < 65536) :
    bits .or .i64 (bits .or .i64 (bits .and .i64 (a : Int) (b : Int)) (bits .and .i64 (a : Int) (c : Int))) (bits .and .i64 (b : Int) (c : Int)) = ((majN a b c : Nat) : Int) := by
  have h1 : a &&& b < 2 ^ 16 := Nat.and_lt_two_pow _ hb
  have h2 : a &&& c < 2 ^ 16 := Nat.and_lt_two_pow _ hc
  have h3 : b &&& c < 2 ^ 16 := Nat.and_lt_two_pow _ hc
  have h4 : (a &&& b) ||| (a &&& c) < 2 ^ 16 := Nat.or_lt_two_pow h1 h2
  rw [i64_and_nat _ _ (by omega) (by omega), i64_and_nat _ _ (by omega) (by omega), i64_and_nat _ _ (by omega) (by omega), i64_or_nat _ _ (by omega) (by omega), i64_or_nat _ _ (by omega) (by omega)]
  rfl

set_option maxRecDepth 100000 in
set_option maxHeartbeats 400000 in
theorem leastOf_any (l : List Int) (a b c : Nat) (g off cap : Nat) (w : World) (hr : w.rangeAt g off (cellsI l)) (hl : l.length = 85) (h2 : l.getD 2 0 = a) (h3 : l.getD 3 0 = b) (h4 : l.getD 4 0 = c) (ha : a < 65536) (hb : b < 65536) (hc : c < 65536) :
    Calls Try.prog 24 #[.slice (some ⟨g, off, none⟩) 85 cap] w fun e w' => (∃ v, e = .returned (.tuple #[.int .i64 v, .bool (decide (0 ≤ lF (majN a b c)))]) ∧ (0 ≤ lF (majN a b c) → v = lF (majN a b c))) ∧ ∃ n, w' = w.drewN n := by
  have c2 := rangeI hr 2 (by omega)
  have c3 := rangeI hr 3 (by omega)
  have c4 := rangeI hr 4 (by omega)
  rw [h2] at c2
  rw [h3] at c3
  rw [h4] at c4
  have hm0 := maj_nat ha hb hc
  have hM := majN_lt (c := c) ha hb
  have hK := chk_all _ hM
  generalize majN a b c = M at *
  have HM : Hid _ := hm0
  clear hr hl h2 h3 h4 hm0
  go_enter Try.func24, Try.ntmps24
  go_wp2
  go_quiet (fail)
  go_upto_region 3 with fail
  rw [HM.out]
  have hm1 : bits .and .i64 (M : Int) ((M : Int) + 1) = ((M &&& (M + 1) : Nat) : Int) := by
    have := i64_and_nat M (M + 1) (by omega) (by omega)
    rwa [show ((M + 1 : Nat) : Int) = (M : Int) + 1 from by omega] at this
  by_cases hz : M &&& (M + 1) = 0
  · have hzb : (bits .and .i64 (M : Int) ((M : Int) + 1) == 0) = true := by rw [hm1, hz]; rfl
    rw [chk, if_pos (by simpa using hz)] at hK
    simp only [Bool.and_eq_true, decide_eq_true_eq, beq_iff_eq] at hK
    obtain ⟨⟨k1, k2⟩, k3⟩ := hK
    obtain ⟨n, hn⟩ := Int.eq_ofNat_of_zero_le k1
    have hones : onesF (M : Int) = (n : Int) := by
      have := List.all_eq_true.1 onesF_all n (by simp; omega)
      rw [hn, Int.toNat_natCast] at k3
      have h5 : ((M + 1 : Nat) : Int) = ((2 ^ n : Nat) : Int) := by rw [k3]
      rw [Int.natCast_pow] at h5
      have h6 : (M : Int) = 2 ^ n - 1 := by
        have : ((2 : Nat) : Int) ^ n = 2 ^ n := rfl
        omega
      rw [h6]
      simpa using this
    have HD : Hid (decide (0 ≤ lF M) = true) := decide_eq_true k1
    have HN : Hid (lF M = n) := hn
    have HO : Hid (onesF (M : Int) = (n : Int)) := hones
    clear hm1 hz k1 k2 k3 hn HM hones
    go_wp2_with fail
    refine (ones_any (M : Int) _).mono ?_
    rintro e w1 ⟨rfl, rfl⟩
    rw [HO.out]
    go_wp2_with fail
    go_ret2
    exact ⟨⟨n, by rw [HD.out]; rfl, fun _ => HN.out.symm⟩, _, rfl⟩
  · have hzb : (bits .and .i64 (M : Int) ((M : Int) + 1) == 0) = false := by rw [hm1, beq_eq_false_iff_ne]; omega
    rw [chk, if_neg (by simpa using hz)] at hK
    have hl1 : lF M = -1 := by simpa using hK
    have HD : Hid (decide (0 ≤ lF M) = false) := by show decide _ = _; rw [hl1]; rfl
    have HL : Hid (lF M = -1) := hl1
    clear hm1 hz hK hl1 HM
    go_wp2_with fail
    go_ret2
    exact ⟨⟨0, by rw [HD.out]; rfl, fun h => by rw [HL.out] at h; omega⟩, _, rfl⟩

end Go.Proofs.Ytkmoglhgkcnalaa
