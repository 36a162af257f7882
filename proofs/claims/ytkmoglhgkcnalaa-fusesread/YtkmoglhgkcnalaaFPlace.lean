/- A place of a key: the program's plain functions. -/
import Derived.Test.YtkmoglhgkcnalaaFPlain
namespace Go.Proofs.Ytkmoglhgkcnalaa
open Go.RowKit

/-- two words say the same, and one of the two codes -/
def ansB (x y : Int) : Bool := (x == y) && (x == 4080 || x == 61455)

set_option maxRecDepth 100000 in
set_option maxHeartbeats 400000 in
theorem answers_any (b off cap at' : Nat) (x y : Int) (w : World) (hat : at' + 1 < 20)
    (c0 : w.cell? ⟨b, off + at', none⟩ = some (.int .i64 x)) (c1 : w.cell? ⟨b, off + (at' + 1), none⟩ = some (.int .i64 y)) :
    Calls Try.prog 34 #[.slice (some ⟨b, off, none⟩) 20 cap, .int .i64 at'] w fun e w' => e = .returned (.bool (ansB x y)) ∧ ∃ n, w' = w.drewN n := by
  have hw : IntKind.i64.wrap ((at' : Int) + 1) = ((at' + 1 : Nat) : Int) := by rw [wrap_small] <;> omega
  have h0 : (at' : Int) < 20 := by omega
  have h1 : ((at' + 1 : Nat) : Int) < 20 := by omega
  by_cases hxy : x = y
  · subst hxy
    have bxy : (x == x) = true := by simp
    by_cases h1 : x = 4080
    · subst h1
      have HS : Hid (ansB 4080 4080 = true) := by show ansB 4080 4080 = _; rfl
      go_enter Try.func34, Try.ntmps34
      go_wp2
      go_quiet (fail)
      go_wp2_with fail
      go_ret
      exact ⟨by rw [HS.out]; rfl, _, rfl⟩
    · have b1 : (x == 4080) = false := by rw [beq_eq_false_iff_ne]; exact h1
      have HS : Hid (ansB x x = (x == 61455)) := by show ansB x x = _; simp [ansB, b1]
      go_enter Try.func34, Try.ntmps34
      go_wp2
      go_quiet (fail)
      go_wp2_with fail
      go_ret
      exact ⟨by rw [HS.out]; rfl, _, rfl⟩
  · have bxy : (x == y) = false := by rw [beq_eq_false_iff_ne]; exact hxy
    have HS : Hid (ansB x y = false) := by show ansB x y = _; simp [ansB, bxy]
    go_enter Try.func34, Try.ntmps34
    go_wp2
    go_quiet (fail)
    go_wp2_with fail
    go_ret
    exact ⟨by rw [HS.out]; rfl, _, rfl⟩

/-- the place says twice alike what it says twice -/
def rightB (L : List Int) : Bool := ansB (L.getD 0 0) (L.getD 1 0) && ansB (L.getD 2 0) (L.getD 3 0)
/-- the key may be used -/
def usableB (L : List Int) : Bool := (L.getD 0 0 == 4080) && (L.getD 2 0 == 61455)

set_option maxRecDepth 100000 in
set_option maxHeartbeats 400000 in
theorem usable_any (L : List Int) (b off cap : Nat) (w : World) (hr : w.rangeAt b off (cellsI L)) (hl : L.length = 20) :
    Calls Try.prog 27 #[.slice (some ⟨b, off, none⟩) 20 cap] w fun e w' => e = .returned (.bool (usableB L)) ∧ w' = w := by
  have c0 := rangeI hr 0 (by omega)
  have c2 := rangeI hr 2 (by omega)
  rw [Nat.add_zero] at c0
  have HU : Hid (usableB L = ((L.getD 0 0 == 4080) && (L.getD 2 0 == 61455))) := by show usableB L = _; rfl
  generalize usableB L = u at *
  generalize L.getD 0 0 = x at *
  generalize L.getD 2 0 = y at *
  clear hr hl
  by_cases h1 : x = 4080
  · subst h1
    have HS : Hid (u = (y == 61455)) := by show u = _; rw [HU.out]; simp
    clear HU
    go_enter Try.func27, Try.ntmps27
    go_wp2_with fail
    go_ret
    exact ⟨by rw [HS.out]; rfl, rfl⟩
  · have b1 : (x == 4080) = false := by rw [beq_eq_false_iff_ne]; exact h1
    have HS : Hid (u = false) := by show u = _; rw [HU.out, b1]; rfl
    clear HU
    go_enter Try.func27, Try.ntmps27
    go_wp2_with fail
    go_ret
    exact ⟨by rw [HS.out]; rfl, rfl⟩

set_option maxRecDepth 100000 in
set_option maxHeartbeats 400000 in
theorem right_any' (L : List Int) (b off cap : Nat) (w : World) (hr : w.rangeAt b off (cellsI L)) (hl : L.length = 20) :
    Calls Try.prog 26 #[.slice (some ⟨b, off, none⟩) 20 cap] w fun e w' => e = .returned (.bool (rightB L)) ∧ ∃ n, w' = w.drewN n := by
  have c0 := rangeI hr 0 (by omega)
  have c1 := rangeI hr 1 (by omega)
  have c2 := rangeI hr 2 (by omega)
  have c3 := rangeI hr 3 (by omega)
  have H0 : Hid _ := fun n => answers_any b off cap 0 _ _ (w.drewN n) (by omega) c0 c1
  have H2 : Hid _ := fun n => answers_any b off cap 2 _ _ (w.drewN n) (by omega) c2 c3
  have HU : Hid (rightB L = (ansB (L.getD 0 0) (L.getD 1 0) && ansB (L.getD 2 0) (L.getD 3 0))) := by show rightB L = _; rfl
  generalize rightB L = u at *
  generalize ansB (L.getD 0 0) (L.getD 1 0) = p at *
  generalize ansB (L.getD 2 0) (L.getD 3 0) = q at *
  clear hr hl c0 c1 c2 c3
  go_enter Try.func26, Try.ntmps26
  go_wp2_with fail
  refine (H0.out 0).mono ?_
  rintro e w1 ⟨rfl, n, rfl⟩
  cases p with
  | false =>
    have HS : Hid (u = false) := HU.out
    go_wp2_with fail
    go_ret
    exact ⟨by rw [HS.out]; rfl, _, rfl⟩
  | true =>
    have HS : Hid (u = q) := by show u = q; rw [HU.out]; rfl
    go_wp2_with fail
    refine (H2.out _).mono ?_
    rintro e w1 ⟨rfl, m, rfl⟩
    go_wp2_with fail
    go_ret
    exact ⟨by rw [HS.out]; rfl, _, rfl⟩

theorem u16_any (n : Nat) (w : World) (hn : n < 65536) :
    Calls Try.prog 36 #[.int .i64 n] w fun e w' => e = .returned (.string ⟨(octF n 2).toArray⟩) ∧ Below w.heap.size w w' := by
  have HT : Hid _ := fun w => text_any n 2 w (by omega)
  generalize octF n 2 = O at *
  have hw : IntKind.u64.wrap (n : Int) = n := by rw [IntKind.wrap_u64]; omega
  go_enter Try.func36, Try.ntmps36
  go_wp2_with fail
  refine (HT.out _).mono ?_
  rintro e w1 ⟨rfl, hb⟩
  have Hb : Hid _ := hb
  clear hb
  go_wp2_with fail
  go_ret
  exact ⟨rfl, Hb.out⟩

end Go.Proofs.Ytkmoglhgkcnalaa
