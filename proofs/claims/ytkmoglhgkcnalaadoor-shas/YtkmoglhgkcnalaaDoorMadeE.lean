/- The reference's words, made of roots. -/
import Derived.Test.YtkmoglhgkcnalaaDoorMadeD
namespace Go.Proofs.YtkmoglhgkcnalaaDoor
open Go.RowKit

set_option maxRecDepth 100000 in
set_option maxHeartbeats 400000 in
theorem primes_any (w : World) :
    Calls Tryd.prog 24 #[.int .i64 64] w fun e w' => ∃ v, e = .returned v ∧ OwnI w.heap.size w' v (pl 312) ∧ Below w.heap.size w w' := by
  obtain ⟨i0, hi, hz0, hz1, hz2⟩ := info_parts Tryd.infoI
  go_enter Tryd.func24, Tryd.ntmps24
  go_wp2
  go_loopw [3, 4] (fun o x wr => ∃ n : Nat, 2 ≤ n ∧ n ≤ 312 ∧ x = .int .i64 n ∧ OwnI w.heap.size wr o (pl n) ∧ Below w.heap.size w wr) (fun _ x _ => 312 - (intOf x).toNat)
  case atStart => exact ⟨2, by omega, by omega, rfl, by rw [show pl 2 = [] from by decide +kernel]; exact World.ownsRow_nil _ _ _ _, Below.refl _ _⟩
  case round =>
    obtain ⟨n, hn0, hn1, rfl, hown, hb⟩ := hrel
    obtain ⟨a, cap, hv⟩ := hown.form
    subst hv
    have hpl := pl_len n hn1
    have Hown : Hid _ := hown
    have Hb : Hid _ := hb
    have hsz := hb.size
    clear hown hb
    by_cases hlt : (pl n).length < 64
    · have hlt' : ((pl n).length : Int) < 64 := by omega
      have hn2 := pl_short n hn1 hlt
      have HS : Hid _ := pl_succ n
      generalize pl n = L at *
      go_wp2_with fail
      refine (prime_any n _ hn0 (by omega)).mono ?_
      rintro e w' ⟨rfl, rfl⟩
      cases hpb : primeB n with
      | true =>
        have HS2 : Hid (pl (n + 1) = L ++ [(n : Int)]) := by show pl (n + 1) = _; rw [HS.out, hpb]; rfl
        clear HS hpb
        go_wp2_with (first
          | refine wpList_append_own _ (by rfl) _ _ 22 (by rfl) w.heap.size 3 i0 (.int .i64 0) 1 8 Tryd.underlying22 hi hz0 hz1 hz2 (by rfl) (by decide) (.slice a L.length cap) L.length (cellsI L) (by rfl) (by exact World.ownsRow.alloc Hown.out _) ⟨w'.heap.size, 0, none⟩ 1 1 [.int .i64 (n : Int)] (by rfl) (by rfl) (by exact cell_one_new _ _ _) (by simp [Value.oneCell']) (by unfold maxLen; omega) (by omega) (by simp only [World.size_alloc]; omega) ?_)
        intro v' w2 hown' hgrow _
        have HO : Hid (OwnI w.heap.size w2 v' (pl (n + 1))) := by
          show w2.ownsRow _ _ _ _ _ _
          rw [HS2.out, List.length_append, List.length_singleton]
          simpa [cellsI] using hown'
        have HBw : Hid (Below w.heap.size w w2) := (Hb.out.alloc hsz _).grown hgrow (by simp only [World.size_alloc]; omega) (fun j e => (World.ownsRow.lt Hown.out j e).1)
        clear hown' hgrow
        go_wp2_with fail
        go_roundw
        case rel => exact ⟨n + 1, by omega, by omega, by go_num, HO.out, HBw.out⟩
        case measure => simp [intOf]; omega
      | false =>
        have HS2 : Hid (pl (n + 1) = L) := by show pl (n + 1) = _; rw [HS.out, hpb]; simp
        clear HS hpb
        go_wp2_with fail
        go_roundw
        case rel => exact ⟨n + 1, by omega, by omega, by go_num, by rw [HS2.out]; exact Hown.out, Hb.out⟩
        case measure => simp [intOf]; omega
    · have hlt' : ¬ ((pl n).length : Int) < 64 := by omega
      have HF : Hid (pl n = pl 312) := pl_full n hn1 (by omega)
      generalize pl n = L at *
      go_wp2_with fail
      go_ret
      exact ⟨_, rfl, by rw [← HF.out]; exact Hown.out, Hb.out⟩

/-- the roots -/
def RH : List Int := [6074000999, 7439101573, 9603838834, 11363415354, 14244795007, 15485724812, 17708603819, 18721328409]
def RK : List Int := [5411319704, 6194414737, 7344290767, 8215976869, 9551921755, 10098905585, 11043570340, 11460697813, 12214315672, 13195500289, 13492127166, 14311783875, 14809980276, 15046980094, 15499789991, 16133124468, 16720292289, 16907126662, 17444216262, 17784676812, 17950125167, 18429019306, 18734950876, 19175934170, 19734090066, 20001703533, 20132865992, 20390182855, 20516441075, 20764397895, 21588763473, 21813078375, 22141143685, 22248366392, 22769593852, 22871018771, 23170020180, 23461497531, 23651862830, 23931792517, 24205322401, 24295138891, 24734567280, 24820601251, 24990902297, 25075189284, 25569408389, 26045227120, 26200031510, 26276752392, 26428864332, 26653801653, 26727943347, 27092625994, 27306805839, 27517677555, 27725365998, 27793908591, 27997534228, 28131656200, 28198240250, 28526537963, 28973835255, 29099129074]
/-- a root, checked -/
def rootOk (p r c : Int) (cube : Bool) : Bool := decide (0 ≤ p) && decide (p < 65536) && decide (0 ≤ r) && decide (r < 1099511627776) && decide (powF r cube ≤ topF p cube) && decide (topF p cube < powF (r + 1) cube) && decide (r % 4294967296 = c)
theorem okH : (List.range 8).all (fun i => rootOk ((pl 312).getD i 0) (RH.getD i 0) (H0.getD i 0) false) = true := by decide +kernel
theorem okK : (List.range 64).all (fun i => rootOk ((pl 312).getD i 0) (RK.getD i 0) (KSc.getD i 0) true) = true := by decide +kernel
theorem pow_mono {x y : Int} (cube : Bool) (h0 : 0 ≤ x) (h : x ≤ y) : powF x cube ≤ powF y cube := by
  have h2 : x * x ≤ y * y := Int.mul_le_mul h h h0 (by omega)
  cases cube with
  | false => exact h2
  | true => exact Int.mul_le_mul h2 h h0 (Int.le_trans (Int.mul_nonneg h0 h0) h2)
theorem root_ok (p r c : Int) (cube : Bool) (w : World) (h : rootOk p r c cube = true) :
    Calls Tryd.prog 25 #[.int .i64 p, .bool cube] w fun e w' => e = .returned (.int .i64 c) ∧ Below w.heap.size w w' := by
  simp only [rootOk, Bool.and_eq_true, decide_eq_true_eq] at h
  obtain ⟨⟨⟨⟨⟨⟨h1, h2⟩, h3⟩, h4⟩, h5⟩, h6⟩, h7⟩ := h
  have := root_any p cube r w h1 h2 h3 h4 (fun x hx0 hx => Int.le_trans (pow_mono cube hx0 hx) h5) (fun x hx => Int.lt_of_lt_of_le h6 (pow_mono cube (by omega) (by omega)))
  rwa [h7] at this

end Go.Proofs.YtkmoglhgkcnalaaDoor
