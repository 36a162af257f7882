/- lintel.Fuses; and what the law FusesRead holds in memory. -/
import Derived.Test.YtkmoglhgkcnalaaFRead
import Derived.Test.YtkmoglhgkcnalaaFSame
import Derived.Test.YtkmoglhgkcnalaaFKept
import Derived.Test.YtkmoglhgkcnalaaFNum
namespace Go.Proofs.Ytkmoglhgkcnalaa
open Go.RowKit

theorem own_heap {M M' : World} {B e sz n : Nat} {v : Value} {xs : List Value} (h : M.ownsRow B e sz v n xs) (he : ∀ g, v.ownBlock = some g → M'.heap[g]? = M.heap[g]?) : M'.ownsRow B e sz v n xs := by
  refine ⟨h.1, h.2.imp id ?_⟩
  rintro ⟨g, cap, cur, rfl, hb, hg, hrest⟩
  exact ⟨g, cap, cur, rfl, hb, (he g rfl).trans hg, hrest⟩
theorem own_lo {M : World} {B B' e sz n : Nat} {v : Value} {xs : List Value} (h : M.ownsRow B e sz v n xs) (hB : B' ≤ B) : M.ownsRow B' e sz v n xs := by
  refine ⟨h.1, h.2.imp id ?_⟩
  rintro ⟨g, cap, cur, rfl, hb, hrest⟩
  exact ⟨g, cap, cur, rfl, Nat.le_trans hB hb, hrest⟩
theorem own_slice {M : World} {B e n : Nat} {v : Value} {xs : List Value} (h : M.ownsRow B e 1 v n xs) : ∃ a c, v = .slice a n c := by
  rcases h.2 with ⟨rfl, h0⟩ | ⟨g, cap, cur, rfl, _⟩
  · exact ⟨_, _, by rw [h0]⟩
  · exact ⟨_, _, rfl⟩

/-- an answer, between the blocks lo and hi -/
structure Ans (M : World) (lo hi : Nat) (U : List Bool) (H : List (List UInt8)) (u h : Value) : Prop where
  ou : M.ownsRow lo 4 1 u U.length (boolsV U)
  oh : M.ownsRow lo 9 1 h H.length (textsV H)
  bu : ∀ g, u.ownBlock = some g → lo ≤ g ∧ g < hi
  bh : ∀ g, h.ownBlock = some g → lo ≤ g ∧ g < hi

theorem Ans.persist {M M' : World} {lo hi : Nat} {U : List Bool} {H : List (List UInt8)} {u h : Value} (f : Ans M lo hi U H u h) (he : ∀ k, lo ≤ k → k < hi → M'.heap[k]? = M.heap[k]?) : Ans M' lo hi U H u h :=
  ⟨own_heap f.ou fun g hg => he g (f.bu g hg).1 (f.bu g hg).2, own_heap f.oh fun g hg => he g (f.bh g hg).1 (f.bh g hg).2, f.bu, f.bh⟩
theorem Ans.calm {M M' : World} {lo hi : Nat} {U : List Bool} {H : List (List UInt8)} {u h : Value} (f : Ans M lo hi U H u h) (hb : Below M.heap.size M M') (hh : hi ≤ M.heap.size) : Ans M' lo hi U H u h :=
  f.persist fun k _ hk => hb.block k (by omega)

theorem ans_of {M : World} {B : Nat} {l : List Int} {s le s' le' : Int} {u h : Value} {code code' : Int} {U : List Bool} {H : List (List UInt8)} (hF : fusF l = (s', U, le', H, code')) (f : FusAns M B l s le u h code) :
    s = s' ∧ le = le' ∧ code = code' ∧ Ans M B M.heap.size U H u h := by
  obtain ⟨U1, H1, h1, h2, h3⟩ := f
  rw [hF] at h3
  simp only [Prod.mk.injEq] at h3
  obtain ⟨rfl, rfl, rfl, rfl, rfl⟩ := h3
  exact ⟨rfl, rfl, rfl, h1, h2, fun g hg => World.ownsRow.lt h1 g hg, fun g hg => World.ownsRow.lt h2 g hg⟩

theorem range_front {w : World} {b o : Nat} {l t : List Int} (h : w.rangeAt b o (cellsI (l ++ t))) : w.rangeAt b o (cellsI l) := fun j v hv => h j v (by
  have hj : j < (cellsI l).length := (List.getElem?_eq_some_iff.1 hv).1
  rw [cellsI, List.map_append, List.getElem?_append_left (by simpa [cellsI] using hj)]
  exact hv)
theorem fusF_len {l : List Int} {s le code : Int} {U : List Bool} {H : List (List UInt8)} (hF : fusF l = (s, U, le, H, code)) : U.length ≤ 4 ∧ H.length ≤ 4 := by
  rw [fusF] at hF
  split at hF
  · split at hF <;> simp only [Prod.mk.injEq] at hF <;> obtain ⟨_, rfl, _, rfl, _⟩ := hF <;> simp
  · simp only [Prod.mk.injEq] at hF
    obtain ⟨_, rfl, _, rfl, _⟩ := hF
    simp

set_option maxRecDepth 100000 in
set_option maxHeartbeats 400000 in
theorem lintelFuses_any (l : List Int) {S LE C : Int} {U : List Bool} {H : List (List UInt8)} (hF : fusF l = (S, U, LE, H, C)) (b off cap : Nat) (w : World) (hr : w.rangeAt b off (cellsI l)) (hl : l.length ≤ 20000000000000) (hb : b < w.heap.size) (hcap : l.length ≤ cap) :
    Calls Try.prog 6 #[.slice (some ⟨b, off, none⟩) l.length cap] w fun e w' => ∃ u h, e = .returned (.tuple #[.agg (fusV S u LE h).toArray, .int .i64 C]) ∧ Below w.heap.size w w' ∧ Ans w' w.heap.size w'.heap.size U H u h := by
  have HC : Hid (Calls Try.prog 13 #[.slice (some ⟨b, off, none⟩) l.length cap] (w.alloc (.cells #[.int .i64 0, .slice none 0 0, .int .i64 0, .slice none 0 0] 27)) fun e w' => ∃ s le u h code, e = .returned (.tuple #[.agg (fusV s u le h).toArray, .int .i64 code]) ∧ Below (w.heap.size + 1) (w.alloc (.cells #[.int .i64 0, .slice none 0 0, .int .i64 0, .slice none 0 0] 27)) w' ∧ FusAns w' (w.heap.size + 1) l s le u h code) := by
    have := read_any l b off cap (w.alloc (.cells #[.int .i64 0, .slice none 0 0, .int .i64 0, .slice none 0 0] 27)) (World.rangeAt_alloc hr _) (by omega) (by simp; omega) hcap
    rwa [World.size_alloc] at this
  clear hr hb hcap hl
  go_enter Try.func6, Try.ntmps6
  go_wp2_with fail
  refine HC.out.mono ?_
  rintro e w1 ⟨s, le, u, h, code, rfl, hb1, hA⟩
  obtain ⟨rfl, rfl, rfl, hA⟩ := ans_of hF hA
  obtain ⟨au, cu, rfl⟩ := own_slice hA.ou
  obtain ⟨ah, ch, rfl⟩ := own_slice hA.oh
  have hth : w1.there w.heap.size 0 4 := there_below hb1 (by omega) (there_new _ _ _ _ _ rfl rfl)
  have Hth : Hid (w1.there w.heap.size 0 (fusV s (.slice au U.length cu) le (.slice ah H.length ch)).toArray.size) := hth
  have Hth2 : Hid (w1.there w.heap.size 0 (fusV s (.slice au U.length cu) le (.slice ah H.length ch)).length) := hth
  have Hb1 : Hid (Below w.heap.size w w1) := ((Below.refl _ _).alloc (Nat.le_refl _) _).trans (hb1.mono (by omega))
  have HA : Hid (Ans w1 (w.heap.size + 1) w1.heap.size U H (.slice au U.length cu) (.slice ah H.length ch)) := hA
  clear hb1 hth hA HC
  go_wp2_with (refine wpList_store_mid rfl 27 (.tmp 2) (.tmp 6) rfl w.heap.size 0 (fusV s (.slice au U.length cu) le (.slice ah H.length ch)).toArray rfl rfl Hth.out (by kernel_rfl) (by kernel_rfl) ?_)
  refine bodyPost_ret (v := .tuple #[.agg (fusV s (.slice au U.length cu) le (.slice ah H.length ch)).toArray, .int .i64 code]) (results_cell_tmp (p := 2) (q := 3) (ty := 27) (by kernel_rfl) _ _ w.heap.size 0 (fusV s (.slice au U.length cu) le (.slice ah H.length ch)) _ _ rfl (World.rangeAt_setCells_same _ _ _ _ Hth2.out) rfl Try.underlying27 rfl (by kernel_rfl)) rfl ⟨_, _, rfl, below_setCells (Nat.le_refl _) _ _ _ _ Hb1.out, ?_⟩
  have hp := HA.out.persist (M' := w1.setCells w.heap.size 0 (fusV s (.slice au U.length cu) le (.slice ah H.length ch)).toArray.toList) fun k hk _ => heap_sets_other (by omega) _ _ _
  have hs : (w1.setCells w.heap.size 0 (fusV s (.slice au U.length cu) le (.slice ah H.length ch)).toArray.toList).heap.size = w1.heap.size := sets_size _ _ _ _
  rw [hs]
  exact ⟨own_lo hp.ou (by omega), own_lo hp.oh (by omega), fun g hg => ⟨by have := (hp.bu g hg).1; omega, (hp.bu g hg).2⟩, fun g hg => ⟨by have := (hp.bh g hg).1; omega, (hp.bh g hg).2⟩⟩

end Go.Proofs.Ytkmoglhgkcnalaa
