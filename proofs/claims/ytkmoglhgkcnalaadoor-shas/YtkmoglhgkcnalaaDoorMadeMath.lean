/- Numbers as lists of 16 bits each: plain lists. Nothing of the program is imported. -/
import Derived.WalkKit
namespace Go.Proofs.YtkmoglhgkcnalaaDoor
open Go.RowKit

/-- the number of a list of limbs, the lowest first -/
def numL : List Int → Int
  | [] => 0
  | d :: r => d + 65536 * numL r
/-- all limbs are of 16 bits -/
def Dgs (l : List Int) : Prop := ∀ i : Nat, 0 ≤ l.getD i 0 ∧ l.getD i 0 < 65536
def hiL (l : List Int) (i : Nat) : Int := numL (l.drop i)
theorem hiL_past (l : List Int) (i : Nat) (h : l.length ≤ i) : hiL l i = 0 := by rw [hiL, List.drop_eq_nil_of_le h]; rfl
theorem hiL_step (l : List Int) (i : Nat) : hiL l i = l.getD i 0 + 65536 * hiL l (i + 1) := by
  by_cases h : i < l.length
  · rw [hiL, hiL, List.drop_eq_getElem_cons h, numL, List.getD_eq_getElem?_getD, List.getElem?_eq_getElem h]; rfl
  · rw [hiL_past l i (by omega), hiL_past l (i + 1) (by omega), List.getD_eq_getElem?_getD, List.getElem?_eq_none (by omega)]; rfl
theorem hiL_lift {a b : List Int} (ha : Dgs a) (hb : Dgs b) : ∀ i, hiL b i < hiL a i → numL b < numL a
  | 0, h => h
  | i + 1, h => by
    refine hiL_lift ha hb i ?_
    rw [hiL_step a i, hiL_step b i]
    have h1 := ha i
    have h2 := hb i
    omega
theorem numL_append (a b : List Int) : numL (a ++ b) = numL a + 65536 ^ a.length * numL b := by
  induction a with
  | nil => simp [numL]
  | cons d r ih =>
    rw [List.cons_append, numL, numL, ih, List.length_cons, Int.pow_succ, Int.mul_add, ← Int.mul_assoc, Int.mul_comm 65536 (65536 ^ r.length)]
    omega
theorem numL_set (l : List Int) : ∀ (j : Nat) (v : Int), j < l.length → numL (l.set j v) = numL l + (v - l.getD j 0) * 65536 ^ j := by
  induction l with
  | nil => intro j v h; simp at h
  | cons d r ih =>
    intro j v h
    cases j with
    | zero => rw [List.set_cons_zero, numL, numL]; simp; omega
    | succ j =>
      rw [List.set_cons_succ, numL, numL, ih j v (by simpa using h), Int.pow_succ, Int.mul_add, List.getD_cons_succ, ← Int.mul_assoc (v - r.getD j 0), Int.mul_comm 65536 ((v - r.getD j 0) * 65536 ^ j)]
      omega
theorem numL_zero (n : Nat) : numL (List.replicate n 0) = 0 := by
  induction n with
  | zero => rfl
  | succ n ih => rw [List.replicate_succ, numL, ih]; rfl
theorem numL_take (b : List Int) (k : Nat) (h : k < b.length) : numL (b.take (k + 1)) = numL (b.take k) + b.getD k 0 * 65536 ^ k := by
  rw [List.take_succ_eq_append_getElem h, numL_append, List.length_take, show min k b.length = k from by omega, List.getD_eq_getElem?_getD, List.getElem?_eq_getElem h, numL, numL, Int.mul_comm]
  simp
theorem numL_nonneg (l : List Int) (h : ∀ i : Nat, 0 ≤ l.getD i 0) : 0 ≤ numL l := by
  induction l with
  | nil => exact Int.le_refl _
  | cons d r ih =>
    rw [numL]
    have h0 := h 0
    have := ih (fun i => by have := h (i + 1); simpa using this)
    simp at h0
    omega
theorem numL_lt (l : List Int) (h : Dgs l) : numL l < 65536 ^ l.length := by
  induction l with
  | nil => decide
  | cons d r ih =>
    rw [numL, List.length_cons, Int.pow_succ]
    have h0 := h 0
    have := ih (fun i => by have := h (i + 1); simpa using this)
    simp at h0
    omega
/-- a carried list whose number is small has a small top limb -/
theorem Dgs_top (l : List Int) (n : Nat) (hl : l.length = n + 1) (h : ∀ i, i < n → 0 ≤ l.getD i 0 ∧ l.getD i 0 < 65536) (h0 : 0 ≤ l.getD n 0) (hn : numL l < 65536 ^ (n + 1)) : Dgs l := by
  have e : l = l.take n ++ [l.getD n 0] := by
    rw [List.getD_eq_getElem?_getD, List.getElem?_eq_getElem (by omega), Option.getD_some, ← List.take_succ_eq_append_getElem (by omega), List.take_of_length_le (by omega)]
  have e2 : numL l = numL (l.take n) + 65536 ^ n * l.getD n 0 := by
    conv => lhs; rw [e]
    rw [numL_append, List.length_take, show min n l.length = n from by omega]; simp [numL]
  have h3 : 0 ≤ numL (l.take n) := numL_nonneg _ (fun i => by
    rw [List.getD_eq_getElem?_getD, List.getElem?_take]
    split
    · have := (h i (by assumption)).1; rwa [List.getD_eq_getElem?_getD] at this
    · exact Int.le_refl _)
  have h4 : l.getD n 0 < 65536 := by
    rw [e2, Int.pow_succ] at hn
    have hp : (0 : Int) < 65536 ^ n := Int.pow_pos (by decide)
    have : 65536 ^ n * l.getD n 0 < 65536 ^ n * 65536 := by omega
    exact Int.lt_of_mul_lt_mul_left this (Int.le_of_lt hp)
  intro i
  by_cases hi : i < n
  · exact h i hi
  · by_cases hi2 : i = n
    · subst hi2; exact ⟨h0, h4⟩
    · rw [List.getD_eq_getElem?_getD, List.getElem?_eq_none (by omega)]; exact ⟨by decide, by decide⟩

/-- the limbs of a number, so many -/
def limbF (n : Int) : Nat → List Int
  | 0 => []
  | k + 1 => n % 65536 :: limbF (n / 65536) k
theorem limbF_length (k : Nat) : ∀ n, (limbF n k).length = k := by
  induction k with
  | zero => intro n; rfl
  | succ k ih => intro n; simp [limbF, ih]
theorem limbF_num (k : Nat) : ∀ n : Int, 0 ≤ n → n < 65536 ^ k → numL (limbF n k) = n := by
  induction k with
  | zero => intro n h0 h1; simp at h1; simp [limbF, numL]; omega
  | succ k ih =>
    intro n h0 h1
    rw [limbF, numL, ih (n / 65536) (by omega) (by rw [Int.pow_succ] at h1; omega)]
    omega
theorem limbF_dgs (k : Nat) : ∀ n : Int, Dgs (limbF n k) := by
  induction k with
  | zero => intro n i; simp [limbF]
  | succ k ih =>
    intro n i
    rw [limbF]
    cases i with
    | zero => simp; omega
    | succ i => have := ih (n / 65536) i; simpa using this
theorem limbF_snoc (k : Nat) : ∀ n : Int, limbF n (k + 1) = limbF n k ++ [n / 65536 ^ k % 65536] := by
  induction k with
  | zero => intro n; simp [limbF]
  | succ k ih =>
    intro n
    rw [limbF, ih (n / 65536), limbF, List.cons_append, Int.ediv_ediv_of_nonneg (by decide), Int.pow_succ, Int.mul_comm 65536]
/-- a small number times 2 to so many times 16 -/
def shiftF (n : Int) (by' : Nat) : List Int := List.replicate by' 0 ++ [n]
theorem shiftF_num (n : Int) (k : Nat) : numL (shiftF n k) = n * 65536 ^ k := by
  rw [shiftF, numL_append, numL_zero, List.length_replicate]; simp [numL, Int.mul_comm]
theorem shiftF_dgs (n : Int) (k : Nat) (h0 : 0 ≤ n) (h1 : n < 65536) : Dgs (shiftF n k) := by
  intro i
  rw [shiftF, List.getD_eq_getElem?_getD]
  by_cases h : i < k
  · rw [List.getElem?_append_left (by simpa using h), List.getElem?_replicate, if_pos h]; exact ⟨by decide, by decide⟩
  · rw [List.getElem?_append_right (by simp; omega), List.length_replicate]
    by_cases h2 : i - k = 0
    · rw [h2]; exact ⟨h0, h1⟩
    · rw [List.getElem?_eq_none (by simp; omega)]; exact ⟨by decide, by decide⟩

end Go.Proofs.YtkmoglhgkcnalaaDoor
