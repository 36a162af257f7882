/- Plain functions of the fuses: the program's. -/
import Derived.Test.YtkmoglhgkcnalaaHNum
import Derived.Test.YtkmoglhgkcnalaaHAid
import Derived.Deep.CutRange
import Derived.Deep.DeepCutAuto
namespace Go.Proofs.Ytkmoglhgkcnalaa
open Go.RowKit

/-- integers as cells -/
def cellsI (l : List Int) : List Value := l.map fun x => Value.int .i64 x
theorem cellsI_length (l : List Int) : (cellsI l).length = l.length := by simp [cellsI]
theorem cellsI_one (l : List Int) : ∀ v ∈ cellsI l, v.oneCell' = true := by
  intro v hv; simp only [cellsI, List.mem_map] at hv; obtain ⟨x, _, rfl⟩ := hv; rfl
theorem getI (L : List Int) (k : Nat) (h : k < L.length) : (cellsI L)[k]? = some (.int .i64 (L.getD k 0)) := by
  simp [cellsI, h]
theorem rangeI {w : World} {b o : Nat} {L : List Int} (h : w.rangeAt b o (cellsI L)) (k : Nat) (hk : k < L.length) : w.cell? ⟨b, o + k, none⟩ = some (.int .i64 (L.getD k 0)) := h k _ (getI L k hk)
theorem rangeI0 {w : World} {b : Nat} {L : List Int} (h : w.rangeAt b 0 (cellsI L)) (k : Nat) (hk : k < L.length) : w.cell? ⟨b, k, none⟩ = some (.int .i64 (L.getD k 0)) := by
  have := rangeI h k hk; rwa [Nat.zero_add] at this
theorem setI (L : List Int) (k : Nat) (v : Int) : (cellsI L).set k (.int .i64 v) = cellsI (L.set k v) := by simp [cellsI, List.map_set]

theorem wrap_small (n : Int) (h0 : 0 ≤ n) (h1 : n ≤ 9223372036854775807) : IntKind.i64.wrap n = n := by rw [IntKind.wrap_i64]; omega

/-- a word of 16 bits -/
def wordB (x : Int) : Bool := decide (0 ≤ x) && decide (x ≤ 65535)
/-- 85 words of 16 bits -/
def areB (l : List Int) : Bool := (l.length == 85) && l.all wordB

theorem isWord_any (x : Int) (w : World) : Calls Try.prog 31 #[.int .i64 x] w fun e w' => e = .returned (.bool (wordB x)) ∧ w' = w := by
  by_cases hx0 : 0 ≤ x
  · have hx1 : wordB x = decide (x ≤ 65535) := by simp [wordB, hx0]
    have hx2 : (0 : Int) ≤ x := hx0
    rw [hx1]
    go_enter Try.func31, Try.ntmps31
    go_wp2
    go_ret
    exact ⟨rfl, rfl⟩
  · have hx1 : wordB x = false := by simp [wordB, hx0]
    rw [hx1]
    go_enter Try.func31, Try.ntmps31
    go_wp2
    go_ret
    exact ⟨rfl, rfl⟩

set_option maxRecDepth 100000 in
set_option maxHeartbeats 400000 in
theorem areWords_any (l : List Int) (b off cap : Nat) (w : World) (hr : w.rangeAt b off (cellsI l)) (hl : l.length ≤ 9223372036854775807) :
    Calls Try.prog 22 #[.slice (some ⟨b, off, none⟩) l.length cap] w fun e w' => e = .returned (.bool (areB l)) ∧ w' = w := by
  have Hr : Hid _ := hr
  clear hr
  by_cases h85 : l.length = 85
  · have hb : ((l.length : Int) == 85) = true := by rw [h85]; rfl
    have h85i : (l.length : Int) = 85 := by omega
    have HL : Hid (l.length = 85) := h85
    have hle : (l.length : Int) ≤ 85 := by omega
    clear h85 h85i
    go_enter Try.func22, Try.ntmps22
    go_wp2
    simp only [show ((l.length : Int) != 85) = false from by simp only [bne, hb]; rfl]
    go_loop [4, 10] (fun _ x => ∃ k : Nat, k ≤ l.length ∧ x = .int .i64 k ∧ (l.take k).all wordB = true) (fun _ x => l.length - (intOf x).toNat)
    case atStart => exact ⟨0, Nat.zero_le _, rfl, rfl⟩
    case round =>
      obtain ⟨k, hk, rfl, hall⟩ := hrel
      by_cases hlt : k < l.length
      · have hlt' : (k : Int) < (l.length : Int) := by omega
        have hc := rangeI Hr.out k hlt
        have HT : Hid (l.take (k + 1) = l.take k ++ [l.getD k 0]) := by
          show l.take (k + 1) = _
          rw [List.take_succ_eq_append_getElem hlt, List.getD_eq_getElem?_getD, List.getElem?_eq_getElem hlt]; rfl
        have HF : Hid (wordB (l.getD k 0) = false → areB l = false) := by
          intro h
          rw [areB, Bool.and_eq_false_iff]
          refine .inr ?_
          rw [List.all_eq_false]
          exact ⟨l[k], List.getElem_mem hlt, by rw [List.getD_eq_getElem?_getD, List.getElem?_eq_getElem hlt] at h; simpa using h⟩
        have HA : Hid _ := hall
        generalize l.getD k 0 = x at *
        clear hall
        go_wp2_with fail
        refine (isWord_any x _).mono ?_
        rintro e w1 ⟨rfl, rfl⟩
        cases hwb : wordB x with
        | false =>
          go_wp2_with fail
          go_ret
          exact ⟨by rw [HF.out hwb]; rfl, rfl⟩
        | true =>
          have HW : Hid (wordB x = true) := hwb
          clear hwb
          go_wp2_with fail
          go_round
          case rel => exact ⟨k + 1, by omega, by go_num, by rw [HT.out, List.all_append, HA.out]; simp [HW.out]⟩
          case measure => simp [intOf]; omega
      · have hkl : k = l.length := by omega
        subst hkl
        have hlt' : ¬ (l.length : Int) < (l.length : Int) := by omega
        have HA : Hid (areB l = true) := by
          show areB l = true
          rw [areB, Bool.and_eq_true]
          exact ⟨by rw [HL.out]; rfl, by rwa [List.take_length] at hall⟩
        clear hall
        go_wp2_with fail
        go_ret
        exact ⟨by rw [HA.out]; rfl, rfl⟩
  · have hb : ((l.length : Int) == 85) = false := by rw [beq_eq_false_iff_ne]; omega
    have HA : Hid (areB l = false) := by
      show areB l = false
      rw [areB, Bool.and_eq_false_iff]
      exact .inl (by rw [beq_eq_false_iff_ne]; exact h85)
    go_enter Try.func22, Try.ntmps22
    go_wp2
    go_ret
    exact ⟨by rw [HA.out]; rfl, rfl⟩

/-- the state of fuses -/
def stateB (x y : Int) : Bool := (x == 255 || x == 3855 || x == 13107 || x == 21845) && x == y
set_option maxRecDepth 100000 in
set_option maxHeartbeats 400000 in
theorem stateOf_any (l : List Int) (b off cap : Nat) (w : World) (hr : w.rangeAt b off (cellsI l)) (hl : l.length = 85) :
    Calls Try.prog 23 #[.slice (some ⟨b, off, none⟩) 85 cap] w fun e w' => (∃ s, e = .returned (.tuple #[.int .i64 s, .bool (stateB (l.getD 0 0) (l.getD 1 0))]) ∧ (stateB (l.getD 0 0) (l.getD 1 0) = true → s = l.getD 0 0)) ∧ ∃ n, w' = w.drewN n := by
  have c0 := rangeI hr 0 (by omega)
  have c1 := rangeI hr 1 (by omega)
  rw [Nat.add_zero] at c0
  generalize l.getD 0 0 = x at *
  generalize l.getD 1 0 = y at *
  clear hr hl
  go_enter Try.func23, Try.ntmps23
  go_wp2
  go_quiet (fail)
  by_cases h255 : x = 255
  · subst h255
    have HS : Hid (stateB 255 y = (255 == y)) := by show stateB 255 y = _; simp [stateB]
    clear c0
    go_wp2_with fail
    go_ret2
    exact ⟨⟨255, by rw [HS.out]; rfl, fun _ => rfl⟩, _, rfl⟩
  · have b255 : (x == 255) = false := by rw [beq_eq_false_iff_ne]; exact h255
    by_cases h3855 : x = 3855
    · subst h3855
      have HS : Hid (stateB 3855 y = (3855 == y)) := by show stateB 3855 y = _; simp [stateB]
      clear c0
      go_wp2_with fail
      go_ret2
      exact ⟨⟨3855, by rw [HS.out]; rfl, fun _ => rfl⟩, _, rfl⟩
    · have b3855 : (x == 3855) = false := by rw [beq_eq_false_iff_ne]; exact h3855
      by_cases h13107 : x = 13107
      · subst h13107
        have HS : Hid (stateB 13107 y = (13107 == y)) := by show stateB 13107 y = _; simp [stateB]
        clear c0
        go_wp2_with fail
        go_ret2
        exact ⟨⟨13107, by rw [HS.out]; rfl, fun _ => rfl⟩, _, rfl⟩
      · have b13107 : (x == 13107) = false := by rw [beq_eq_false_iff_ne]; exact h13107
        by_cases h21845 : x = 21845
        · subst h21845
          have HS : Hid (stateB 21845 y = (21845 == y)) := by show stateB 21845 y = _; simp [stateB]
          clear c0
          go_wp2_with fail
          go_ret2
          exact ⟨⟨21845, by rw [HS.out]; rfl, fun _ => rfl⟩, _, rfl⟩
        · have b21845 : (x == 21845) = false := by rw [beq_eq_false_iff_ne]; exact h21845
          have HS : Hid (stateB x y = false) := by show stateB x y = _; simp [stateB, h255, h3855, h13107, h21845]
          go_wp2_with fail
          go_ret2
          exact ⟨⟨0, by rw [HS.out]; rfl, fun h => by rw [HS.out] at h; cases h⟩, _, rfl⟩

end Go.Proofs.Ytkmoglhgkcnalaa
