/- The reference's primes. -/
import Derived.Test.YtkmoglhgkcnalaaDoorMadeC
namespace Go.Proofs.YtkmoglhgkcnalaaDoor
open Go.RowKit

def primeB (n : Nat) : Bool := decide (1 < n) && (List.range n).all (fun d => !(decide (2 ≤ d) && decide (d * d ≤ n) && n % d == 0))
/-- the primes below a number -/
def pl (n : Nat) : List Int := ((List.range n).filter primeB).map Int.ofNat
theorem pl_succ (n : Nat) : pl (n + 1) = pl n ++ (if primeB n then [(n : Int)] else []) := by
  rw [pl, pl, List.range_succ, List.filter_append, List.map_append]
  congr 1
  by_cases h : primeB n = true
  · simp [h]
  · simp [h]
theorem pl_le (n : Nat) : ∀ k, ∃ r, pl (n + k) = pl n ++ r
  | 0 => ⟨[], by simp⟩
  | k + 1 => by
    obtain ⟨r, hr⟩ := pl_le n k
    exact ⟨r ++ (if primeB (n + k) then [((n + k : Nat) : Int)] else []), by rw [← Nat.add_assoc, pl_succ, hr, List.append_assoc]⟩
theorem pl_312 : (pl 312).length = 64 := by decide +kernel
theorem pl_full (n : Nat) (hn : n ≤ 312) (h : 64 ≤ (pl n).length) : pl n = pl 312 := by
  obtain ⟨r, hr⟩ := pl_le n (312 - n)
  rw [show n + (312 - n) = 312 from by omega] at hr
  have h2 := pl_312
  rw [hr, List.length_append] at h2
  have : r = [] := List.length_eq_zero_iff.1 (by omega)
  rw [hr, this, List.append_nil]
theorem pl_short (n : Nat) (hn : n ≤ 312) (h : (pl n).length < 64) : n < 312 := by
  apply Classical.byContradiction
  intro h2
  have : n = 312 := by omega
  subst this
  rw [pl_312] at h
  omega
theorem pl_len (n : Nat) (hn : n ≤ 312) : (pl n).length ≤ 64 := by
  obtain ⟨r, hr⟩ := pl_le n (312 - n)
  rw [show n + (312 - n) = 312 from by omega] at hr
  have h2 := pl_312
  rw [hr, List.length_append] at h2
  omega

theorem OwnI.form {B : Nat} {w : World} {v : Value} {l : List Int} (h : OwnI B w v l) : ∃ a cap, v = .slice a l.length cap := by
  obtain ⟨_, h2⟩ := h
  rcases h2 with ⟨h3, h4⟩ | ⟨g, cap, cur, h3, _⟩
  · exact ⟨none, 0, by rw [h3, h4]⟩
  · exact ⟨_, cap, h3⟩

set_option maxRecDepth 100000 in
set_option maxHeartbeats 400000 in
theorem prime_any (n : Nat) (w : World) (hn0 : 2 ≤ n) (hn : n ≤ 1000) :
    Calls Tryd.prog 39 #[.int .i64 (n : Int)] w fun e w' => e = .returned (.bool (primeB n)) ∧ w' = w := by
  go_enter Tryd.func39, Tryd.ntmps39
  go_wp2
  go_loop [3] (fun x => ∃ d : Nat, 2 ≤ d ∧ d ≤ n + 1 ∧ x = .int .i64 d ∧ ∀ c, 2 ≤ c → c < d → c * c ≤ n → n % c ≠ 0) (fun x => n + 2 - (intOf x).toNat)
  case atStart => exact ⟨2, by omega, by omega, rfl, fun c h1 h2 => by omega⟩
  case round =>
    obtain ⟨d, hd0, hd1, rfl, hall⟩ := hrel
    have hdd : ((d : Int) * (d : Int)) = ((d * d : Nat) : Int) := by rw [Int.natCast_mul]
    have hb : d * d ≤ 1002001 := by have : d ≤ 1001 := by omega
                                    exact Nat.mul_le_mul this this
    by_cases hlt : d * d ≤ n
    · have hlt' : (d : Int) * (d : Int) ≤ (n : Int) := by rw [hdd]; omega
      have hdn : d < n := by
        have : 2 * d ≤ d * d := Nat.mul_le_mul_right d hd0
        omega
      have w1 := wrap_small ((d : Int) * (d : Int)) (by rw [hdd]; omega) (by rw [hdd]; omega)
      have hmod : (n : Int) % (d : Int) = ((n % d : Nat) : Int) := by rw [Int.natCast_emod]
      have hd1' : (d : Int) ≠ 0 := by omega
      have hdpos : (0 : Int) < (d : Int) := by omega
      by_cases hz : n % d = 0
      · have HB : Hid (primeB n = false) := by
          show primeB n = false
          rw [primeB, Bool.and_eq_false_iff]
          refine .inr ?_
          rw [List.all_eq_false]
          exact ⟨d, by simpa using hdn, by simp [hd0, hlt, hz]⟩
        have hzb : ((n : Int) % (d : Int) == 0) = true := by rw [hmod, hz]; rfl
        clear hall hdd hmod
        go_wp2_with fail
        go_ret
        exact ⟨by rw [HB.out]; rfl, rfl⟩
      · have hzb : ((n : Int) % (d : Int) == 0) = false := by rw [hmod, beq_eq_false_iff_ne]; omega
        have HA : Hid _ := hall
        clear hall hdd hmod
        go_wp2_with fail
        go_round
        case rel => exact ⟨d + 1, by omega, by omega, by go_num, fun c h1 h2 h3 => by
          by_cases e : c = d
          · subst e; exact hz
          · exact HA.out c h1 (by omega) h3⟩
        case measure => simp [intOf]; omega
    · have hlt' : ¬ (d : Int) * (d : Int) ≤ (n : Int) := by rw [hdd]; omega
      have w1 := wrap_small ((d : Int) * (d : Int)) (by rw [hdd]; omega) (by rw [hdd]; omega)
      have HB : Hid (primeB n = true) := by
        show primeB n = true
        rw [primeB, Bool.and_eq_true]
        refine ⟨decide_eq_true (by omega), ?_⟩
        rw [List.all_eq_true]
        intro c _
        by_cases h1 : 2 ≤ c
        · by_cases h2 : c * c ≤ n
          · have hcd : c < d := by
              apply Classical.byContradiction
              intro h3
              have : d * d ≤ c * c := Nat.mul_le_mul (by omega) (by omega)
              omega
            have := hall c h1 hcd h2
            simp [this]
          · simp [h2]
        · simp [h1]
      have hn1 : (1 : Int) < (n : Int) := by omega
      clear hall hdd
      go_wp2_with fail
      go_ret
      exact ⟨by rw [HB.out]; rfl, rfl⟩

end Go.Proofs.YtkmoglhgkcnalaaDoor
