/- The iterator over the places of keys (range over a function): fuses.places and its closure. -/
import Derived.RangeFuncNested
import Derived.RangeFuncBound
import Derived.RangeFuncCalls
import Derived.RangeFuncLeaves
import Derived.Shelf.Abstract
import Derived.Shelf.RegionOpen
import Derived.WalkKit
import Derived.OwnWalkIn
import Derived.TacticsInMore
import Derived.LoopNIn
import Derived.LoopIn
import Derived.Test.YtkmoglhgkcnalaaFPlain
namespace Go.Proofs.Ytkmoglhgkcnalaa
open Go.RowKit Go.Shelf
attribute [local go_sem] Oper.semAt_some

def encP (b off cap : Nat) (k : Fin 4) : Array Value := #[.int .i64 (k.1 : Int), .slice (some ⟨b, off + (5 + 20 * k.1), none⟩) 20 (cap - (5 + 20 * k.1))]

set_option maxRecDepth 100000 in
set_option maxHeartbeats 1000000 in
theorem places_any (a : Option Addr) (len cap : Nat) (w : World) :
    Calls Try.prog 25 #[.slice a len cap] w fun e w' => e = .returned (.func (.func 33) #[] #[.pointer (some ⟨w.heap.size, 0, none⟩)]) ∧ w' = w.alloc (.cells #[.slice a len cap] 22) := by
  go_enter Try.func25, Try.ntmps25
  go_wp2
  go_ret
  exact ⟨rfl, rfl⟩

/-- one cell is kept -/
def KC (Bs : Nat) (W W' : World) : Prop := W'.cell? ⟨Bs, 0, none⟩ = W.cell? ⟨Bs, 0, none⟩

def fours : Nat → List (Fin 4)
  | 0 => []
  | 1 => [0]
  | 2 => [0, 1]
  | 3 => [0, 1, 2]
  | _ => [0, 1, 2, 3]

set_option maxRecDepth 100000 in
set_option maxHeartbeats 2000000 in
theorem places1_in (F : Fence) (n : Nat) (hf : F.fn 33) (hro : F.round = none) (hn : 1 ≤ n) (l Bs b off cap : Nat) (hcap : 85 ≤ cap) (J Jx : List (Fin 4) → World → Prop)
    (hY : ∀ pre x W, J pre W → pre.length < 4 → YieldAt F (n - 1) Try.prog l (encP b off cap x) W fun e W' =>
      (e = .returned (.bool true) ∧ J (pre ++ [x]) W' ∧ KC Bs W W') ∨ (e = .returned (.bool false) ∧ Jx (pre ++ [x]) W'))
    (W : World) (hBs : W.cell? ⟨Bs, 0, none⟩ = some (.slice (some ⟨b, off, none⟩) 85 cap)) (h0 : J [] W) :
    CallsIn F n Try.prog 33 #[.func (.yield l) #[] #[], .pointer (some ⟨Bs, 0, none⟩)] W fun e W' => (∃ v, e = .returned v) ∧
      (J (fours 4) W' ∨ (∃ pre, Jx pre W')) := by
  refine callsIn_of_wp Try.func33 rfl hf ?_ hro
  simp only [Try.ntmps33, List.size_toArray, List.length_cons, List.length_nil, Nat.reduceAdd, Nat.reduceSub, Array.replicate_succ, Array.replicate_zero, List.push_toArray, List.append_toArray, List.nil_append, List.cons_append]
  gi_wp2
  gi_loopw [5] (fun i wr => ∃ k : Nat, k ≤ 4 ∧ i = .int .i64 k ∧ J (fours k) wr ∧ KC Bs W wr)
    (fun i _ => 4 - (intOf i).toNat)
  case atStart => exact ⟨0, by omega, rfl, h0, rfl⟩
  case round =>
    obtain ⟨k, hk, rfl, hJs, hnx⟩ := hrel
    have hcx : wr.cell? ⟨Bs, 0, none⟩ = _ := Eq.trans hnx hBs
    by_cases hlt : k < 4
    · have h4 : k = 0 ∨ k = 1 ∨ k = 2 ∨ k = 3 := by omega
      have hl4 : (fours k).length < 4 := by rcases h4 with rfl | rfl | rfl | rfl <;> decide
      obtain ⟨fn, tmps, assign, body, hy, hR⟩ := hY _ ⟨k, hlt⟩ wr hJs hl4
      clear hY hBs hl4
      have c1 : 5 ≤ cap := by omega
      have c2 : 25 ≤ cap := by omega
      have c3 : 45 ≤ cap := by omega
      have c4 : 65 ≤ cap := by omega
      have d1 : (25 : Int) ≤ (cap : Int) := by omega
      have d2 : (45 : Int) ≤ (cap : Int) := by omega
      have d3 : (65 : Int) ≤ (cap : Int) := by omega
      have d4 : (85 : Int) ≤ (cap : Int) := by omega
      rcases h4 with rfl | rfl | rfl | rfl
      · rw [show encP b off cap ⟨0, hlt⟩ = #[.int .i64 0, .slice (some ⟨b, off + 5, none⟩) 20 (cap - 5)] from rfl] at hy
        gi_wp2
        refine hR.mono ?_
        rintro e W3 (⟨rfl, hJ3, hk3⟩ | ⟨rfl, hJx3⟩)
        · gi_wp2
          go_roundw
          case rel => exact ⟨1, by omega, by simp, hJ3, Eq.trans hk3 hnx⟩
          case measure => simp [intOf]
        · gi_wp2
          refine bodyPost_ret (results_none rfl _ _ _) rfl ?_
          exact ⟨⟨_, rfl⟩, .inr ⟨_, hJx3⟩⟩
      · rw [show encP b off cap ⟨1, hlt⟩ = #[.int .i64 1, .slice (some ⟨b, off + 25, none⟩) 20 (cap - 25)] from rfl] at hy
        gi_wp2
        refine hR.mono ?_
        rintro e W3 (⟨rfl, hJ3, hk3⟩ | ⟨rfl, hJx3⟩)
        · gi_wp2
          go_roundw
          case rel => exact ⟨2, by omega, by simp, hJ3, Eq.trans hk3 hnx⟩
          case measure => simp [intOf]
        · gi_wp2
          refine bodyPost_ret (results_none rfl _ _ _) rfl ?_
          exact ⟨⟨_, rfl⟩, .inr ⟨_, hJx3⟩⟩
      · rw [show encP b off cap ⟨2, hlt⟩ = #[.int .i64 2, .slice (some ⟨b, off + 45, none⟩) 20 (cap - 45)] from rfl] at hy
        gi_wp2
        refine hR.mono ?_
        rintro e W3 (⟨rfl, hJ3, hk3⟩ | ⟨rfl, hJx3⟩)
        · gi_wp2
          go_roundw
          case rel => exact ⟨3, by omega, by simp, hJ3, Eq.trans hk3 hnx⟩
          case measure => simp [intOf]
        · gi_wp2
          refine bodyPost_ret (results_none rfl _ _ _) rfl ?_
          exact ⟨⟨_, rfl⟩, .inr ⟨_, hJx3⟩⟩
      · rw [show encP b off cap ⟨3, hlt⟩ = #[.int .i64 3, .slice (some ⟨b, off + 65, none⟩) 20 (cap - 65)] from rfl] at hy
        gi_wp2
        refine hR.mono ?_
        rintro e W3 (⟨rfl, hJ3, hk3⟩ | ⟨rfl, hJx3⟩)
        · gi_wp2
          go_roundw
          case rel => exact ⟨4, by omega, by simp, hJ3, Eq.trans hk3 hnx⟩
          case measure => simp [intOf]
        · gi_wp2
          refine bodyPost_ret (results_none rfl _ _ _) rfl ?_
          exact ⟨⟨_, rfl⟩, .inr ⟨_, hJx3⟩⟩
    · obtain rfl : k = 4 := by omega
      gi_wp2
      go_end0
      exact ⟨⟨_, rfl⟩, .inl hJs⟩

theorem places_stops (F : Fence) (n : Nat) (hf : F.fn 33) (hro : F.round = none) (hn : 1 ≤ n) (Bs b off cap : Nat) (hcap : 85 ≤ cap) (w : World) (hw : Bs < w.heap.size) (hBs : w.cell? ⟨Bs, 0, none⟩ = some (.slice (some ⟨b, off, none⟩) 85 cap)) :
    SeqStopsK F n Try.prog 33 #[.pointer (some ⟨Bs, 0, none⟩)] (encP b off cap) (KC Bs) (fun xs => xs = fours 4) (fun _ => True) 4 w :=
  fun l J Jx W hW _ _ hY h0 => (places1_in F n hf hro hn l Bs b off cap hcap J Jx hY W ((hW.cell (p := ⟨Bs, 0, none⟩) hw).trans hBs) h0).mono fun _ _ h => ⟨h.1, h.2.imp (fun h => ⟨_, rfl, h⟩) (fun ⟨pre, h⟩ => ⟨pre, trivial, h⟩)⟩
theorem kc_t {Bs : Nat} {A B C : World} (h : KC Bs A B) (h' : KC Bs B C) : KC Bs A C := Eq.trans h' h
theorem kc_b {Bs : Nat} {w : World} (h : Bs < w.heap.size) (W : World) (l : Nat) (o o' : Obj) (hl : w.heap.size ≤ l) (_ : W.heap[l]? = some o) (_ : o.isCells = false) (_ : o.isWalk = false) : KC Bs W (W.putObj l o') := by
  have hne : ¬ l = Bs := by omega
  simp [KC, World.cell?, World.putObj, hne]

end Go.Proofs.Ytkmoglhgkcnalaa
