/- The law's comparisons, at answers that are alike. -/
import Derived.Test.YtkmoglhgkcnalaaFFus
namespace Go.Proofs.Ytkmoglhgkcnalaa
open Go.RowKit

theorem own_row {M : World} {B e n : Nat} {v : Value} {xs : List Value} (h : M.ownsRow B e 1 v n xs) (hn : 0 < n) : ∃ g cap, v = .slice (some ⟨g, 0, none⟩) n cap ∧ B ≤ g ∧ g < M.heap.size ∧ M.rangeAt g 0 xs := by
  rcases h.2 with ⟨_, h0⟩ | ⟨g, cap, cur, hv, hb, hg, _⟩
  · omega
  · have hlt : g < M.heap.size := by
      rcases Nat.lt_or_ge g M.heap.size with h' | h'
      · exact h'
      · simp [Array.getElem?_eq_none h'] at hg
    refine ⟨g, cap, hv, hb, hlt, fun j u hu => ?_⟩
    have := World.ownsRow.cells h (g := g) (by rw [hv]; rfl) j u hu
    rw [Addr.add_mid] at this
    exact this

set_option maxRecDepth 100000 in
set_option maxHeartbeats 400000 in
theorem sameBools_eq (U : List Bool) (u v : Value) (B B' : Nat) (w : World) (hu : w.ownsRow B 4 1 u U.length (boolsV U)) (hv : w.ownsRow B' 4 1 v U.length (boolsV U)) (hl : U.length ≤ 4) :
    Calls Try.prog 18 #[u, v] w fun e w' => e = .returned (.bool true) ∧ ∃ n, w' = w.drewN n := by
  obtain ⟨au, cu, hu1⟩ := (by rcases hu.2 with ⟨rfl, h0⟩ | ⟨g, cap, cur, rfl, _⟩; exact ⟨_, _, by rw [h0]⟩; exact ⟨_, _, rfl⟩ : ∃ a c, u = .slice a U.length c)
  obtain ⟨av, cv, hv1⟩ := (by rcases hv.2 with ⟨rfl, h0⟩ | ⟨g, cap, cur, rfl, _⟩; exact ⟨_, _, by rw [h0]⟩; exact ⟨_, _, rfl⟩ : ∃ a c, v = .slice a U.length c)
  subst hu1
  subst hv1
  have Hu : Hid _ := hu
  have Hv : Hid _ := hv
  clear hu hv
  have heq : ((U.length : Int) == (U.length : Int)) = true := by simp
  go_enter Try.func18, Try.ntmps18
  go_wp2_with fail
  go_loopw [5] (fun i wr => ∃ (k m : Nat), k ≤ U.length ∧ i = .int .i64 k ∧ wr = w.drewN m) (fun i _ => U.length - (intOf i).toNat)
  case atStart => exact ⟨0, 0, by omega, rfl, rfl⟩
  case round =>
    obtain ⟨k, m, hk, rfl, rfl⟩ := hrel
    by_cases hlt : k < U.length
    · obtain ⟨g, cg, hg, _, _, hgr⟩ := own_row Hu.out (by omega)
      obtain ⟨g', cg', hg', _, _, hgr'⟩ := own_row Hv.out (by omega)
      injection hg with hg1 _ hg2
      injection hg' with hg1' _ hg2'
      subst hg1 hg2 hg1' hg2'
      have c1 : w.cell? ⟨g, k, none⟩ = some (.bool U[k]) := by have := hgr k (.bool U[k]) (by simp [boolsV, hlt]); rwa [Nat.zero_add] at this
      have c2 : w.cell? ⟨g', k, none⟩ = some (.bool U[k]) := by have := hgr' k (.bool U[k]) (by simp [boolsV, hlt]); rwa [Nat.zero_add] at this
      have hlt' : (k : Int) < (U.length : Int) := by omega
      generalize U[k] = x at *
      clear hgr hgr'
      cases x with
      | true =>
        go_wp2_with fail
        go_quiet (fail)
        go_wp2_with fail
        go_roundw
        case rel => exact ⟨k + 1, _, by omega, by go_num, rfl⟩
        case measure => simp [intOf]; omega
      | false =>
        go_wp2_with fail
        go_quiet (fail)
        go_wp2_with fail
        go_roundw
        case rel => exact ⟨k + 1, _, by omega, by go_num, rfl⟩
        case measure => simp [intOf]; omega
    · have hkl : k = U.length := by omega
      subst hkl
      have hlt' : ¬ (U.length : Int) < (U.length : Int) := by omega
      go_wp2_with fail
      go_ret
      exact ⟨rfl, _, rfl⟩

set_option maxRecDepth 100000 in
set_option maxHeartbeats 400000 in
theorem sameTexts_eq (U : List (List UInt8)) (u v : Value) (B B' : Nat) (w : World) (hu : w.ownsRow B 9 1 u U.length (textsV U)) (hv : w.ownsRow B' 9 1 v U.length (textsV U)) (hl : U.length ≤ 4) :
    Calls Try.prog 19 #[u, v] w fun e w' => e = .returned (.bool true) ∧ ∃ n, w' = w.drewN n := by
  obtain ⟨au, cu, hu1⟩ := (by rcases hu.2 with ⟨rfl, h0⟩ | ⟨g, cap, cur, rfl, _⟩; exact ⟨_, _, by rw [h0]⟩; exact ⟨_, _, rfl⟩ : ∃ a c, u = .slice a U.length c)
  obtain ⟨av, cv, hv1⟩ := (by rcases hv.2 with ⟨rfl, h0⟩ | ⟨g, cap, cur, rfl, _⟩; exact ⟨_, _, by rw [h0]⟩; exact ⟨_, _, rfl⟩ : ∃ a c, v = .slice a U.length c)
  subst hu1
  subst hv1
  have Hu : Hid _ := hu
  have Hv : Hid _ := hv
  clear hu hv
  have heq : ((U.length : Int) == (U.length : Int)) = true := by simp
  go_enter Try.func19, Try.ntmps19
  go_wp2_with fail
  go_loopw [5] (fun i wr => ∃ (k m : Nat), k ≤ U.length ∧ i = .int .i64 k ∧ wr = w.drewN m) (fun i _ => U.length - (intOf i).toNat)
  case atStart => exact ⟨0, 0, by omega, rfl, rfl⟩
  case round =>
    obtain ⟨k, m, hk, rfl, rfl⟩ := hrel
    by_cases hlt : k < U.length
    · obtain ⟨g, cg, hg, _, _, hgr⟩ := own_row Hu.out (by omega)
      obtain ⟨g', cg', hg', _, _, hgr'⟩ := own_row Hv.out (by omega)
      injection hg with hg1 _ hg2
      injection hg' with hg1' _ hg2'
      subst hg1 hg2 hg1' hg2'
      have c1 : w.cell? ⟨g, k, none⟩ = some (.string ⟨U[k].toArray⟩) := by have := hgr k (.string ⟨U[k].toArray⟩) (by simp [textsV, hlt]); rwa [Nat.zero_add] at this
      have c2 : w.cell? ⟨g', k, none⟩ = some (.string ⟨U[k].toArray⟩) := by have := hgr' k (.string ⟨U[k].toArray⟩) (by simp [textsV, hlt]); rwa [Nat.zero_add] at this
      have hlt' : (k : Int) < (U.length : Int) := by omega
      generalize U[k] = x at *
      clear hgr hgr'
      go_wp2_with fail
      go_quiet (fail)
      go_wp2_with fail
      go_roundw
      case rel => exact ⟨k + 1, _, by omega, by go_num, rfl⟩
      case measure => simp [intOf]; omega
    · have hkl : k = U.length := by omega
      subst hkl
      have hlt' : ¬ (U.length : Int) < (U.length : Int) := by omega
      go_wp2_with fail
      go_ret
      exact ⟨rfl, _, rfl⟩

set_option maxRecDepth 100000 in
set_option maxHeartbeats 400000 in
theorem sameFuses_eq (s le : Int) (U : List Bool) (H : List (List UInt8)) (u u' h h' : Value) (B B' : Nat) (w : World) (hu : w.ownsRow B 4 1 u U.length (boolsV U)) (hu' : w.ownsRow B' 4 1 u' U.length (boolsV U)) (hh : w.ownsRow B 9 1 h H.length (textsV H)) (hh' : w.ownsRow B' 9 1 h' H.length (textsV H)) (hl : U.length ≤ 4) (hl2 : H.length ≤ 4) :
    Calls Try.prog 8 #[.agg #[.int .i64 s, u, .int .i64 le, h], .agg #[.int .i64 s, u', .int .i64 le, h']] w fun e w' => e = .returned (.bool true) ∧ Below w.heap.size w w' := by
  obtain ⟨au, cu, hu1⟩ := (by rcases hu.2 with ⟨rfl, h0⟩ | ⟨g, cap, cur, rfl, _⟩; exact ⟨_, _, by rw [h0]⟩; exact ⟨_, _, rfl⟩ : ∃ a c, u = .slice a U.length c)
  obtain ⟨av, cv, hv1⟩ := (by rcases hu'.2 with ⟨rfl, h0⟩ | ⟨g, cap, cur, rfl, _⟩; exact ⟨_, _, by rw [h0]⟩; exact ⟨_, _, rfl⟩ : ∃ a c, u' = .slice a U.length c)
  obtain ⟨ah, ch, hh1⟩ := (by rcases hh.2 with ⟨rfl, h0⟩ | ⟨g, cap, cur, rfl, _⟩; exact ⟨_, _, by rw [h0]⟩; exact ⟨_, _, rfl⟩ : ∃ a c, h = .slice a H.length c)
  obtain ⟨ai, ci, hi1⟩ := (by rcases hh'.2 with ⟨rfl, h0⟩ | ⟨g, cap, cur, rfl, _⟩; exact ⟨_, _, by rw [h0]⟩; exact ⟨_, _, rfl⟩ : ∃ a c, h' = .slice a H.length c)
  subst hu1 hv1 hh1 hi1
  have HB : Hid (∀ o o', Calls Try.prog 18 #[.slice au U.length cu, .slice av U.length cv] ((w.alloc o).alloc o') fun e w' => e = .returned (.bool true) ∧ ∃ n, w' = ((w.alloc o).alloc o').drewN n) := fun o o' => sameBools_eq U _ _ B B' _ (World.ownsRow.alloc (World.ownsRow.alloc hu _) _) (World.ownsRow.alloc (World.ownsRow.alloc hu' _) _) hl
  have HT : Hid (∀ o o' n, Calls Try.prog 19 #[.slice ah H.length ch, .slice ai H.length ci] (((w.alloc o).alloc o').drewN n) fun e w' => e = .returned (.bool true) ∧ ∃ m, w' = (((w.alloc o).alloc o').drewN n).drewN m) := fun o o' n => sameTexts_eq H _ _ B B' _ (own_calm (World.ownsRow.alloc (World.ownsRow.alloc hh _) _) ⟨rfl, rfl, rfl, Nat.le_refl _, fun _ _ => rfl⟩) (own_calm (World.ownsRow.alloc (World.ownsRow.alloc hh' _) _) ⟨rfl, rfl, rfl, Nat.le_refl _, fun _ _ => rfl⟩) hl2
  clear hu hu' hh hh'
  go_enter Try.func8, Try.ntmps8
  go_wp2_with fail
  refine (HB.out _ _).mono ?_
  rintro e w1 ⟨rfl, n, rfl⟩
  go_wp2_with fail
  refine (HT.out _ _ _).mono ?_
  rintro e w1 ⟨rfl, m, rfl⟩
  go_wp2_with fail
  go_ret
  exact ⟨by first | rfl | simp, by
    have h1 := ((Below.refl w.heap.size w).alloc (Nat.le_refl _) (.cells #[.int .i64 s, .slice au U.length cu, .int .i64 le, .slice ah H.length ch] 27)).alloc (by simp) (.cells #[.int .i64 s, .slice av U.length cv, .int .i64 le, .slice ai H.length ci] 27)
    exact ⟨h1.os, h1.tape, h1.output, h1.size, h1.block⟩⟩

end Go.Proofs.Ytkmoglhgkcnalaa
