/- The least version, bit by bit: plain numbers. Nothing of the program is imported. -/
import Derived.WalkKit
namespace Go.Proofs.Ytkmoglhgkcnalaa
open Go.RowKit

/-- the least version by a majority's bits, from the lowest on; -1: not right -/
def refL (M : Nat) : Nat → Nat → Bool → Int
  | 0, n, _ => n
  | k + 1, n, ended => if M.testBit (16 - (k + 1)) then (if ended then -1 else refL M k (n + 1) false) else refL M k n true
def lF (M : Nat) : Int := refL M 16 0 false
def chk (M : Nat) : Bool := if M &&& (M + 1) == 0 then decide (0 ≤ lF M) && decide (lF M ≤ 16) && (M + 1 == 2 ^ (lF M).toNat) else lF M == -1
theorem chk0 : (List.range 4096).all (fun j => chk (0 + j)) = true := by decide +kernel
theorem chk1 : (List.range 4096).all (fun j => chk (4096 + j)) = true := by decide +kernel
theorem chk2 : (List.range 4096).all (fun j => chk (8192 + j)) = true := by decide +kernel
theorem chk3 : (List.range 4096).all (fun j => chk (12288 + j)) = true := by decide +kernel
theorem chk4 : (List.range 4096).all (fun j => chk (16384 + j)) = true := by decide +kernel
theorem chk5 : (List.range 4096).all (fun j => chk (20480 + j)) = true := by decide +kernel
theorem chk6 : (List.range 4096).all (fun j => chk (24576 + j)) = true := by decide +kernel
theorem chk7 : (List.range 4096).all (fun j => chk (28672 + j)) = true := by decide +kernel
theorem chk8 : (List.range 4096).all (fun j => chk (32768 + j)) = true := by decide +kernel
theorem chk9 : (List.range 4096).all (fun j => chk (36864 + j)) = true := by decide +kernel
theorem chk10 : (List.range 4096).all (fun j => chk (40960 + j)) = true := by decide +kernel
theorem chk11 : (List.range 4096).all (fun j => chk (45056 + j)) = true := by decide +kernel
theorem chk12 : (List.range 4096).all (fun j => chk (49152 + j)) = true := by decide +kernel
theorem chk13 : (List.range 4096).all (fun j => chk (53248 + j)) = true := by decide +kernel
theorem chk14 : (List.range 4096).all (fun j => chk (57344 + j)) = true := by decide +kernel
theorem chk15 : (List.range 4096).all (fun j => chk (61440 + j)) = true := by decide +kernel
theorem chk_all (M : Nat) (h : M < 65536) : chk M = true := by
  have key : ∀ (i : Nat), (List.range 4096).all (fun j => chk (i * 4096 + j)) = true → M / 4096 = i → chk M = true := fun i hi e => by
    have := List.all_eq_true.1 hi (M % 4096) (by simp; omega)
    rwa [show i * 4096 + M % 4096 = M from by omega] at this
  have h16 : M / 4096 < 16 := by omega
  generalize hq : M / 4096 = q at h16
  have : q = 0 ∨ q = 1 ∨ q = 2 ∨ q = 3 ∨ q = 4 ∨ q = 5 ∨ q = 6 ∨ q = 7 ∨ q = 8 ∨ q = 9 ∨ q = 10 ∨ q = 11 ∨ q = 12 ∨ q = 13 ∨ q = 14 ∨ q = 15 := by omega
  rcases this with rfl | rfl | rfl | rfl | rfl | rfl | rfl | rfl | rfl | rfl | rfl | rfl | rfl | rfl | rfl | rfl
  · exact key 0 chk0 hq
  · exact key 1 chk1 hq
  · exact key 2 chk2 hq
  · exact key 3 chk3 hq
  · exact key 4 chk4 hq
  · exact key 5 chk5 hq
  · exact key 6 chk6 hq
  · exact key 7 chk7 hq
  · exact key 8 chk8 hq
  · exact key 9 chk9 hq
  · exact key 10 chk10 hq
  · exact key 11 chk11 hq
  · exact key 12 chk12 hq
  · exact key 13 chk13 hq
  · exact key 14 chk14 hq
  · exact key 15 chk15 hq

end Go.Proofs.Ytkmoglhgkcnalaa
