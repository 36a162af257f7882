/- The reference's words, plain integers modulo 2 to the 32, are the program's. Nothing of the program is imported. -/
import Derived.Test.YtkmoglhgkcnalaaDoorMath3
namespace Go.Proofs.YtkmoglhgkcnalaaDoor
open Go.RowKit

theorem u32_bd (op : BinOp) (x y : Int) : 0 ≤ bits op .u32 x y ∧ bits op .u32 x y < 4294967296 := by
  unfold bits; simp only [IntKind.wrap_u32]; omega
theorem wrap32_bd (x : Int) : 0 ≤ IntKind.u32.wrap x ∧ IntKind.u32.wrap x < 4294967296 := by
  rw [IntKind.wrap_u32]; omega
theorem ofInt_i64 (a : Nat) (ha : a < 9223372036854775808) : (BitVec.ofInt 64 (a : Int)).toNat = a := by
  rw [BitVec.ofInt_natCast, BitVec.toNat_ofNat]; exact Nat.mod_eq_of_lt (by omega)
theorem i64_and_nat (a b : Nat) (ha : a < 9223372036854775808) (hb : b < 9223372036854775808) : bits .and .i64 (a : Int) (b : Int) = ((a &&& b : Nat) : Int) := by
  have hx : a &&& b < 2 ^ 63 := Nat.and_lt_two_pow _ (by omega)
  show IntKind.i64.wrap ((BitVec.ofInt 64 (a : Int) &&& BitVec.ofInt 64 (b : Int)).toNat : Int) = _
  rw [BitVec.toNat_and, ofInt_i64 a ha, ofInt_i64 b hb, IntKind.wrap_i64]
  omega
theorem i64_or_nat (a b : Nat) (ha : a < 9223372036854775808) (hb : b < 9223372036854775808) : bits .or .i64 (a : Int) (b : Int) = ((a ||| b : Nat) : Int) := by
  have hx : a ||| b < 2 ^ 63 := Nat.or_lt_two_pow (by omega) (by omega)
  show IntKind.i64.wrap ((BitVec.ofInt 64 (a : Int) ||| BitVec.ofInt 64 (b : Int)).toNat : Int) = _
  rw [BitVec.toNat_or, ofInt_i64 a ha, ofInt_i64 b hb, IntKind.wrap_i64]
  omega
theorem i64_xor_nat (a b : Nat) (ha : a < 9223372036854775808) (hb : b < 9223372036854775808) : bits .xor .i64 (a : Int) (b : Int) = ((a ^^^ b : Nat) : Int) := by
  have hx : a ^^^ b < 2 ^ 63 := Nat.xor_lt_two_pow (by omega) (by omega)
  show IntKind.i64.wrap ((BitVec.ofInt 64 (a : Int) ^^^ BitVec.ofInt 64 (b : Int)).toNat : Int) = _
  rw [BitVec.toNat_xor, ofInt_i64 a ha, ofInt_i64 b hb, IntKind.wrap_i64]
  omega
/-- a number that is a word -/
def Wd (x : Int) : Prop := 0 ≤ x ∧ x < 4294967296
theorem xor_w {x y : Int} (hx : Wd x) (hy : Wd y) : bits .xor .i64 x y = bits .xor .u32 x y := by
  obtain ⟨a, rfl⟩ := Int.eq_ofNat_of_zero_le hx.1
  obtain ⟨b, rfl⟩ := Int.eq_ofNat_of_zero_le hy.1
  have := hx.2; have := hy.2
  rw [i64_xor_nat _ _ (by omega) (by omega), u32_xor_nat _ _ (by omega) (by omega)]
theorem and_w {x y : Int} (hx : Wd x) (hy : Wd y) : bits .and .i64 x y = bits .and .u32 x y := by
  obtain ⟨a, rfl⟩ := Int.eq_ofNat_of_zero_le hx.1
  obtain ⟨b, rfl⟩ := Int.eq_ofNat_of_zero_le hy.1
  have := hx.2; have := hy.2
  rw [i64_and_nat _ _ (by omega) (by omega), u32_and_nat _ _ (by omega) (by omega)]
theorem mask_w {x : Int} (h0 : 0 ≤ x) (h1 : x < 9223372036854775808) : bits .and .i64 x 4294967295 = x % 4294967296 := by
  obtain ⟨a, rfl⟩ := Int.eq_ofNat_of_zero_le h0
  have e := i64_and_nat a 4294967295 (by omega) (by omega)
  rw [show ((4294967295 : Nat) : Int) = 4294967295 from rfl] at e
  rw [e, show (4294967295 : Nat) = 2 ^ 32 - 1 from rfl, Nat.and_two_pow_sub_one_eq_mod]
  omega
theorem not_w {x : Int} (hx : Wd x) : bits .xor .u32 4294967295 x = 4294967295 - x := by
  obtain ⟨a, rfl⟩ := Int.eq_ofNat_of_zero_le hx.1
  have h2 := hx.2
  have e := u32_xor_nat 4294967295 a (by omega) (by omega)
  rw [show ((4294967295 : Nat) : Int) = 4294967295 from rfl] at e
  rw [e]
  have e2 : 4294967295 ^^^ a = 4294967295 - a := by
    apply Nat.eq_of_testBit_eq
    intro i
    rw [Nat.testBit_xor, show 4294967295 - a = 2 ^ 32 - (a + 1) from by omega, Nat.testBit_two_pow_sub_succ (by omega), show (4294967295 : Nat) = 2 ^ 32 - 1 from rfl, Nat.testBit_two_pow_sub_one]
    by_cases h : i < 32
    · simp [h]
    · have : a.testBit i = false := Nat.testBit_lt_two_pow (Nat.lt_of_lt_of_le (show a < 2 ^ 32 by omega) (Nat.pow_le_pow_right (by decide) (by omega)))
      simp [h, this]
  rw [e2]
  omega

theorem not_wd {x : Int} (hx : Wd x) : Wd (4294967295 - x) := ⟨by have := hx.2; omega, by have := hx.1; omega⟩

theorem rot_nat (x k : Nat) (hx : x < 4294967296) (h1 : 1 ≤ k) (h2 : k ≤ 31) : rotF (x : Int) (-(k : Int)) = (((x * 2 ^ (32 - k)) % 4294967296 ||| x / 2 ^ k : Nat) : Int) := by
  have ew : IntKind.u64.wrap (-(k : Int)) = ((18446744073709551616 - k : Nat) : Int) := by rw [IntKind.wrap_u64]; omega
  have e1 : bits .and .u64 (IntKind.u64.wrap (-(k : Int))) 31 = ((32 - k : Nat) : Int) := by
    rw [ew]
    have e := u64_and_nat (18446744073709551616 - k) 31 (by omega) (by omega)
    rw [show ((31 : Nat) : Int) = 31 from rfl] at e
    rw [e, show (31 : Nat) = 2 ^ 5 - 1 from rfl, Nat.and_two_pow_sub_one_eq_mod]
    omega
  have e2 : IntKind.u64.wrap (32 - ((32 - k : Nat) : Int)) = (k : Int) := by rw [IntKind.wrap_u64]; omega
  have hp : 2 ^ (32 - k) * 2 ^ k = 4294967296 := by rw [← Nat.pow_add, show 32 - k + k = 32 from by omega]
  unfold rotF
  rw [e1, e2, Int.toNat_natCast, Int.toNat_natCast, show min (32 - k) 32 = 32 - k from by omega, show min k 32 = k from by omega]
  have a1 : IntKind.u32.wrap ((x : Int) * 2 ^ (32 - k)) = ((x * 2 ^ (32 - k) % 4294967296 : Nat) : Int) := by
    rw [IntKind.wrap_u32, Int.natCast_emod, Int.natCast_mul, Int.natCast_pow]; rfl
  have a2 : (x : Int) / 2 ^ k = ((x / 2 ^ k : Nat) : Int) := by rw [Int.natCast_ediv, Int.natCast_pow]; rfl
  rw [a1, a2, u32_or_nat _ _ (Nat.mod_lt _ (by decide)) (Nat.lt_of_le_of_lt (Nat.div_le_self _ _) hx)]

/-- a word turned right, as the reference does it -/
theorem right_nat (x k : Nat) (hx : x < 4294967296) : (x / 2 ^ k ||| x * 2 ^ (32 - k)) % 4294967296 = ((x * 2 ^ (32 - k)) % 4294967296 ||| x / 2 ^ k) := by
  rw [show (4294967296 : Nat) = 2 ^ 32 from rfl, Nat.or_mod_two_pow, Nat.mod_eq_of_lt (a := x / 2 ^ k) (Nat.lt_of_le_of_lt (Nat.div_le_self _ _) hx), Nat.or_comm]
theorem right_w (x : Int) (k : Nat) (hx : Wd x) (h1 : 2 ≤ k) (h2 : k ≤ 31) : bits .and .i64 (bits .or .i64 (x / 2 ^ k) (x * 2 ^ (32 - k))) 4294967295 = rotF x (-(k : Int)) := by
  obtain ⟨a, rfl⟩ := Int.eq_ofNat_of_zero_le hx.1
  have hx2 := hx.2
  have a2 : (a : Int) / 2 ^ k = ((a / 2 ^ k : Nat) : Int) := by rw [Int.natCast_ediv, Int.natCast_pow]; rfl
  have a1 : (a : Int) * 2 ^ (32 - k) = ((a * 2 ^ (32 - k) : Nat) : Int) := by rw [Int.natCast_mul, Int.natCast_pow]; rfl
  have b1 : a * 2 ^ (32 - k) < 4611686018427387904 := by
    have hp : 2 ^ (32 - k) ≤ 2 ^ 30 := Nat.pow_le_pow_right (by decide) (by omega)
    calc a * 2 ^ (32 - k) ≤ a * 2 ^ 30 := Nat.mul_le_mul_left _ hp
      _ < 4611686018427387904 := by omega
  have b2 : a / 2 ^ k < 4294967296 := Nat.lt_of_le_of_lt (Nat.div_le_self _ _) (by omega)
  have hx : a / 2 ^ k ||| a * 2 ^ (32 - k) < 2 ^ 63 := Nat.or_lt_two_pow (by omega) (by omega)
  rw [rot_nat a k (by omega) (by omega) h2, a1, a2, i64_or_nat _ _ (by omega) (by omega), mask_w (by omega) (by omega), ← right_nat a k (by omega)]
  rfl
theorem shl_w (x : Int) (k : Nat) (hx : Wd x) (h1 : 2 ≤ k) : wrap64 (x * 2 ^ (32 - k)) = x * 2 ^ (32 - k) := by
  obtain ⟨a, rfl⟩ := Int.eq_ofNat_of_zero_le hx.1
  have hx2 := hx.2
  have a1 : (a : Int) * 2 ^ (32 - k) = ((a * 2 ^ (32 - k) : Nat) : Int) := by rw [Int.natCast_mul, Int.natCast_pow]; rfl
  have b1 : a * 2 ^ (32 - k) < 4611686018427387904 := by
    have hp : 2 ^ (32 - k) ≤ 2 ^ 30 := Nat.pow_le_pow_right (by decide) (by omega)
    calc a * 2 ^ (32 - k) ≤ a * 2 ^ 30 := Nat.mul_le_mul_left _ hp
      _ < 4611686018427387904 := by omega
  rw [a1]
  generalize a * 2 ^ (32 - k) = q at b1
  unfold wrap64; omega
theorem rot_wd (x k : Int) : Wd (rotF x k) := u32_bd _ _ _
theorem turned_wd (x a b c : Int) : Wd (turnedF x a b c) := u32_bd _ _ _
theorem shifted_wd (x a b c : Int) : Wd (shiftedF x a b c) := u32_bd _ _ _
theorem div_wd {x : Int} (hx : Wd x) (k : Nat) : Wd (x / 2 ^ k) := by
  obtain ⟨a, rfl⟩ := Int.eq_ofNat_of_zero_le hx.1
  have hx2 := hx.2
  have a2 : (a : Int) / 2 ^ k = ((a / 2 ^ k : Nat) : Int) := by rw [Int.natCast_ediv, Int.natCast_pow]; rfl
  have b2 : a / 2 ^ k ≤ a := Nat.div_le_self _ _
  rw [a2]
  generalize a / 2 ^ k = q at b2
  exact ⟨by omega, by omega⟩

/-- a list of words -/
def Wds (L : List Int) : Prop := ∀ i : Nat, Wd (L.getD i 0)
theorem wd0 : Wd 0 := ⟨by decide, by decide⟩
theorem wds_snoc {L : List Int} {x : Int} (h : Wds L) (hx : Wd x) : Wds (L ++ [x]) := by
  intro i
  by_cases h1 : i < L.length
  · have := h i
    rw [List.getD_eq_getElem?_getD] at this ⊢
    rwa [List.getElem?_append_left h1]
  · rw [List.getD_eq_getElem?_getD, List.getElem?_append_right (by omega)]
    by_cases h2 : i - L.length = 0
    · rw [h2]; exact hx
    · rw [List.getElem?_eq_none (by simp; omega)]; exact wd0
theorem wds_sched (B : List UInt8) : ∀ k, Wds (schedTo B k)
  | 0 => fun i => by rw [schedTo]; exact wd0
  | k + 1 => by
    rw [schedTo]
    refine wds_snoc (wds_sched B k) ?_
    split
    · exact wrap32_bd _
    · exact wrap32_bd _
structure St.Wd (s : St) : Prop where
  a : Go.Proofs.YtkmoglhgkcnalaaDoor.Wd s.a
  b : Go.Proofs.YtkmoglhgkcnalaaDoor.Wd s.b
  c : Go.Proofs.YtkmoglhgkcnalaaDoor.Wd s.c
  d : Go.Proofs.YtkmoglhgkcnalaaDoor.Wd s.d
  e : Go.Proofs.YtkmoglhgkcnalaaDoor.Wd s.e
  f : Go.Proofs.YtkmoglhgkcnalaaDoor.Wd s.f
  g : Go.Proofs.YtkmoglhgkcnalaaDoor.Wd s.g
  h : Go.Proofs.YtkmoglhgkcnalaaDoor.Wd s.h
theorem wd_next {s : St} (h : s.Wd) (k w : Int) : (s.next k w).Wd := ⟨wrap32_bd _, h.a, h.b, h.c, wrap32_bd _, h.e, h.f, h.g⟩
theorem wd_of {H : List Int} (h : Wds H) : (St.of H).Wd := ⟨h 0, h 1, h 2, h 3, h 4, h 5, h 6, h 7⟩
theorem wd_rnds (K W : List Int) {H : List Int} (h : Wds H) : ∀ i, (rndsTo K W H i).Wd
  | 0 => wd_of h
  | i + 1 => wd_next (wd_rnds K W h i) _ _
theorem wds_mixTo (H G : List Int) (h : Wds H) (k : Nat) : Wds (mixTo H G k) := by
  intro i
  rw [mixTo]
  by_cases h1 : i < 8
  · rw [List.getD_eq_getElem?_getD, List.getElem?_map, List.getElem?_range h1]
    simp only [Option.map_some, Option.getD_some]
    split
    · exact wrap32_bd _
    · exact h i
  · rw [List.getD_eq_getElem?_getD, List.getElem?_eq_none (by simp; omega)]; exact wd0
theorem wds_H0 : Wds H0 := by
  intro i
  by_cases h : i < 8
  · have : i = 0 ∨ i = 1 ∨ i = 2 ∨ i = 3 ∨ i = 4 ∨ i = 5 ∨ i = 6 ∨ i = 7 := by omega
    rcases this with rfl | rfl | rfl | rfl | rfl | rfl | rfl | rfl <;> exact ⟨by decide, by decide⟩
  · rw [List.getD_eq_getElem?_getD, List.getElem?_eq_none (by simp [H0]; omega)]; exact wd0
theorem wds_fold (KS : List Int) (L : List UInt8) : ∀ n, Wds (foldTo KS L n)
  | 0 => wds_H0
  | n + 1 => by rw [foldTo, mixF]; exact wds_mixTo _ _ (wds_fold KS L n) _

theorem ref_t (s : St) (hs : s.Wd) (k w : Int) : (s.h + turnedF s.e 6 11 25 + bits .xor .u32 (bits .and .u32 s.e s.f) (bits .and .u32 (4294967295 - s.e) s.g) + k + w) % 4294967296 = s.t k w := by
  rw [St.t, not_w hs.e]
  simp only [IntKind.wrap_u32]
  omega
theorem ref_a (s : St) (hs : s.Wd) (k w : Int) : ((s.h + turnedF s.e 6 11 25 + bits .xor .u32 (bits .and .u32 s.e s.f) (bits .and .u32 (4294967295 - s.e) s.g) + k + w) % 4294967296 + turnedF s.a 2 13 22 +
    bits .xor .u32 (bits .xor .u32 (bits .and .u32 s.a s.b) (bits .and .u32 s.a s.c)) (bits .and .u32 s.b s.c)) % 4294967296 = (s.next k w).a := by
  rw [ref_t s hs]
  show _ = IntKind.u32.wrap (s.t k w + s.u)
  rw [St.u, IntKind.wrap_u32, IntKind.wrap_u32]
  omega
theorem ref_e (s : St) (hs : s.Wd) (k w : Int) : (s.d + (s.h + turnedF s.e 6 11 25 + bits .xor .u32 (bits .and .u32 s.e s.f) (bits .and .u32 (4294967295 - s.e) s.g) + k + w) % 4294967296) % 4294967296 = (s.next k w).e := by
  rw [ref_t s hs]
  show _ = IntKind.u32.wrap (s.d + s.t k w)
  rw [IntKind.wrap_u32]

theorem word_w (x0 x1 x2 x3 : UInt8) : bits .or .i64 (bits .or .i64 (bits .or .i64 ((x0.toNat : Int) * 16777216) ((x1.toNat : Int) * 65536)) ((x2.toNat : Int) * 256)) (x3.toNat : Int) = numF [x0, x1, x2, x3] := by
  have h0 := x0.toNat_lt
  have h1 := x1.toNat_lt
  have h2 := x2.toNat_lt
  have h3 := x3.toNat_lt
  have e0 : (x0.toNat : Int) * 16777216 = ((x0.toNat * 16777216 : Nat) : Int) := by omega
  have e1 : (x1.toNat : Int) * 65536 = ((x1.toNat * 65536 : Nat) : Int) := by omega
  have e2 : (x2.toNat : Int) * 256 = ((x2.toNat * 256 : Nat) : Int) := by omega
  rw [e0, e1, e2, i64_or_nat _ _ (by omega) (by omega), nat_join 24 (x0.toNat * 16777216) (x1.toNat * 65536) (by omega) (by omega), i64_or_nat _ _ (by omega) (by omega),
    nat_join 16 (x0.toNat * 16777216 + x1.toNat * 65536) (x2.toNat * 256) (by omega) (by omega), i64_or_nat _ _ (by omega) (by omega), nat_join 8 _ x3.toNat (by omega) (by omega)]
  simp only [numF, List.foldl]
  omega

theorem octF_get (k : Nat) : ∀ n i, i < k → (octF n k)[i]? = some (UInt8.ofNat (n / 256 ^ (k - 1 - i))) := by
  induction k with
  | zero => intro n i h; omega
  | succ k ih =>
    intro n i h
    rw [octF_cons]
    cases i with
    | zero => simp
    | succ i => rw [List.getElem?_cons_succ, ih n i (by omega), show k + 1 - 1 - (i + 1) = k - 1 - i from by omega]

end Go.Proofs.YtkmoglhgkcnalaaDoor
