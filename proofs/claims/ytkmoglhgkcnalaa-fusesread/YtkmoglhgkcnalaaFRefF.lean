/- The reference's Fuses. -/
import Derived.Test.YtkmoglhgkcnalaaFFus
import Derived.Test.YtkmoglhgkcnalaaHHead
import Derived.Laws.AppendOwn
import Derived.Laws.OwnMore
import Derived.RangeFuncBox
import Derived.Maps.AppendAt
import Derived.Deep.Onto
namespace Go.Proofs.Ytkmoglhgkcnalaa
open Go.RowKit

/-- the words of the place k -/
def placeL (l : List Int) (k : Nat) : List Int := (l.drop (5 + 20 * k)).take 20
def leastL (l : List Int) : Int := lF (majN (l.getD 2 0).toNat (l.getD 3 0).toNat (l.getD 4 0).toNat)
def okF (l : List Int) : Bool := stateB (l.getD 0 0) (l.getD 1 0) && decide (0 ≤ leastL l) && (List.range 4).all fun k => rightB (placeL l k)
/-- what fuses say: state, usable, least, hashes, the error's code -/
def fusF (l : List Int) : Int × List Bool × Int × List (List UInt8) × Int :=
  if areB l then (if okF l then (l.getD 0 0, (List.range 4).map fun k => usableB (placeL l k), leastL l, (List.range 4).map fun k => hashL ((placeL l k).drop 4), 0) else (0, [], 0, [], 1)) else (0, [], 0, [], 11)

/-- an answer of Fuses, in memory of its own, from the block B on -/
def FusAns (M : World) (B : Nat) (l : List Int) (s le : Int) (u h : Value) (code : Int) : Prop :=
  ∃ (U : List Bool) (H : List (List UInt8)), M.ownsRow B 4 1 u U.length (boolsV U) ∧ M.ownsRow B 9 1 h H.length (textsV H) ∧ fusF l = (s, U, le, H, code)

theorem fusAns_none (M : World) (B : Nat) (l : List Int) (code : Int) (h : fusF l = (0, [], 0, [], code)) : FusAns M B l 0 0 (.slice none 0 0) (.slice none 0 0) code :=
  ⟨[], [], World.ownsRow_nil _ _ _ _, World.ownsRow_nil _ _ _ _, h⟩

/-- the answer's cells -/
def fusV (s : Int) (u : Value) (le : Int) (h : Value) : List Value := [.int .i64 s, u, .int .i64 le, h]

theorem fus_make (w M : World) (s le : Int) (hs : M.heap.size = w.heap.size + 2) (hb : Below w.heap.size w M) (ht : M.there w.heap.size 0 4) (ht2 : M.there (w.heap.size + 1) 0 4) :
    Fus w (M.setCells (w.heap.size + 1) 0 (fusV s (.slice none 0 0) le (.slice none 0 0)).toArray.toList) s le (.slice none 0 0) (.slice none 0 0) [] [] := by
  have hr := World.rangeAt_setCells_same M (w.heap.size + 1) 0 (fusV s (.slice none 0 0) le (.slice none 0 0)) ht2
  have hsz : (M.setCells (w.heap.size + 1) 0 (fusV s (.slice none 0 0) le (.slice none 0 0)).toArray.toList).heap.size = w.heap.size + 2 := by rw [← hs]; simp [fusV, World.setCells, World.setCell]
  have h0 := hr 0 _ rfl
  have h1 := hr 1 _ rfl
  have h2 := hr 2 _ rfl
  have h3 := hr 3 _ rfl
  exact ⟨below_setCells (by omega) _ _ _ _ hb, by omega, World.there_setCells ht _ _ _, h0, h1, h2, h3, World.there_setCells ht2 _ _ _, World.ownsRow_nil _ _ _ _, World.ownsRow_nil _ _ _ _⟩

/-- may the key be used, as the reference says it -/
def refUse (L : List Int) : Bool := (saidF (L.getD 0 0) (L.getD 1 0) == 1) && (saidF (L.getD 2 0) (L.getD 3 0) == 0)
theorem ansB_said (a b : Int) : ansB a b = decide (0 ≤ saidF a b) := by
  unfold ansB saidF
  by_cases h : a = b
  · subst h
    by_cases h1 : a = 4080
    · subst h1; rfl
    · by_cases h2 : a = 61455
      · subst h2; rfl
      · simp [h1, h2]
  · simp [h]
theorem refUse_right (L : List Int) (h : rightB L = true) : refUse L = usableB L := by
  unfold rightB at h
  rw [Bool.and_eq_true] at h
  obtain ⟨h1, h2⟩ := h
  unfold ansB at h1 h2
  simp only [Bool.and_eq_true, Bool.or_eq_true, beq_iff_eq] at h1 h2
  unfold refUse usableB saidF
  obtain ⟨e1, h1⟩ := h1
  obtain ⟨e2, h2⟩ := h2
  rw [if_pos e1, if_pos e2]
  rcases h1 with h1 | h1 <;> rcases h2 with h2 | h2 <;> rw [h1, h2] <;> rfl

theorem Try.infoBool : (Try.prog.info? 4).map (fun i => (i.zero, i.size, i.bytes)) = some (some (.bool false), 1, 1) := by kernel_rfl
theorem Try.infoText : (Try.prog.info? 9).map (fun i => (i.zero, i.size, i.bytes)) = some (some (.string ⟨#[]⟩), 1, 16) := by kernel_rfl
theorem own_form {M : World} {B e sz n : Nat} {v : Value} {xs : List Value} (h : M.ownsRow B e sz v n xs) : ∃ a cap, v = .slice a n cap := by
  rcases h.2 with ⟨rfl, rfl⟩ | ⟨g, cap, cur, rfl, _⟩
  · exact ⟨_, _, rfl⟩
  · exact ⟨_, _, rfl⟩

theorem catB (a b : List UInt8) : (ByteArray.mk a.toArray) ++ (ByteArray.mk b.toArray) = ByteArray.mk (a ++ b).toArray := by
  apply ByteArray.ext
  simp

theorem own_sets {B e sz n c : Nat} {v : Value} {xs : List Value} (hc : c < B) : ∀ (vs : List Value) (o : Nat) (M : World), M.ownsRow B e sz v n xs → (M.setCells c o vs).ownsRow B e sz v n xs
  | [], _, _, h => h
  | x :: r, o, M, h => by rw [World.setCells]; exact own_sets hc r (o + 1) _ (own_set h hc x)
theorem Fus.row {w M : World} {s le : Int} {u h : Value} {U : List Bool} {H : List (List UInt8)} (f : Fus w M s le u h U H) : M.rangeAt (w.heap.size + 1) 0 (fusV s u le h) := fun j v hv => by
  rw [Nat.zero_add]
  match j, hv with
  | 0, hv => simp [fusV] at hv; subst hv; exact f.c0
  | 1, hv => simp [fusV] at hv; subst hv; exact f.c1
  | 2, hv => simp [fusV] at hv; subst hv; exact f.c2
  | 3, hv => simp [fusV] at hv; subst hv; exact f.c3
  | _ + 4, hv => simp [fusV] at hv

/-- four words that are read -/
def S4 (b off : Nat) (x0 x2 x3 x4 : Int) (M : World) : Prop :=
  M.cell? ⟨b, off, none⟩ = some (.int .i64 x0) ∧ M.cell? ⟨b, off + 2, none⟩ = some (.int .i64 x2) ∧ M.cell? ⟨b, off + 3, none⟩ = some (.int .i64 x3) ∧ M.cell? ⟨b, off + 4, none⟩ = some (.int .i64 x4)
theorem S4.alloc {b off : Nat} {x0 x2 x3 x4 : Int} {M : World} (h : S4 b off x0 x2 x3 x4 M) (hb : b < M.heap.size) (o : Obj) : S4 b off x0 x2 x3 x4 (M.alloc o) := by
  have hbl := ((Below.refl M.heap.size M).alloc (Nat.le_refl _) o)
  exact ⟨(hbl.cell (p := ⟨b, off, none⟩) hb).trans h.1, (hbl.cell (p := ⟨b, off + 2, none⟩) hb).trans h.2.1, (hbl.cell (p := ⟨b, off + 3, none⟩) hb).trans h.2.2.1, (hbl.cell (p := ⟨b, off + 4, none⟩) hb).trans h.2.2.2⟩
theorem S4.drewN {b off : Nat} {x0 x2 x3 x4 : Int} {M : World} (h : S4 b off x0 x2 x3 x4 M) (n : Nat) : S4 b off x0 x2 x3 x4 (M.drewN n) := h
theorem S4.set {b off c : Nat} {x0 x2 x3 x4 : Int} {M : World} (h : S4 b off x0 x2 x3 x4 M) (hb : b < c) (vs : List Value) : S4 b off x0 x2 x3 x4 (M.setCells c 0 vs) := by
  have hbl := below_setCells (Nat.le_refl c) vs 0 M M (Below.refl c M)
  exact ⟨(hbl.cell (p := ⟨b, off, none⟩) hb).trans h.1, (hbl.cell (p := ⟨b, off + 2, none⟩) hb).trans h.2.1, (hbl.cell (p := ⟨b, off + 3, none⟩) hb).trans h.2.2.1, (hbl.cell (p := ⟨b, off + 4, none⟩) hb).trans h.2.2.2⟩

set_option maxRecDepth 100000 in
set_option maxHeartbeats 8000000 in
theorem refFuses_any (l : List Int) (b off cap : Nat) (w : World) (hr : w.rangeAt b off (cellsI l)) (hl : l.length ≤ 9223372036854775807) (hb : b < w.heap.size) :
    Calls Try.prog 7 #[.slice (some ⟨b, off, none⟩) l.length cap] w fun e w' => ∃ s le u h code, e = .returned (.tuple #[.agg (fusV s u le h).toArray, .int .i64 code]) ∧ Below w.heap.size w w' ∧ FusAns w' w.heap.size l s le u h code := by
  have Hwd : Hid _ := fun o => refWords_any l b off cap (w.alloc o) (World.rangeAt_alloc hr o) hl
  by_cases hA : areB l = true
  · have hAA := hA
    rw [areB, Bool.and_eq_true] at hAA
    have h85 : l.length = 85 := by simpa using hAA.1
    have hwd : ∀ k, k < 85 → 0 ≤ l.getD k 0 ∧ l.getD k 0 < 65536 := fun k hk => by
      have h1 := List.all_eq_true.1 hAA.2 (l.getD k 0) (by rw [List.getD_eq_getElem?_getD, List.getElem?_eq_getElem (by omega)]; exact List.getElem_mem _)
      simp only [wordB, Bool.and_eq_true, decide_eq_true_eq] at h1
      omega
    have Hw : Hid (∀ k, k < 85 → 0 ≤ l.getD k 0 ∧ l.getD k 0 < 65536) := hwd
    have HA : Hid (areB l = true) := hA
    have H85 : Hid (l.length = 85) := h85
    have Hr : Hid (w.rangeAt b off (cellsI l)) := hr
    rw [h85] at Hwd ⊢
    rw [hA] at Hwd
    clear hAA hwd hA hr hl h85
    go_enter Try.func7, Try.ntmps7
    go_wp2_with fail
    refine (Hwd.out _).mono ?_
    rintro e w1 ⟨rfl, rfl⟩
    clear Hwd
    go_upto_region 4 with fail
    obtain ⟨W0, hW0⟩ : ∃ W0, W0 = w.alloc (.cells #[.int .i64 0, .slice none 0 0, .int .i64 0, .slice none 0 0] 27) := ⟨_, rfl⟩
    have hW0' : w.alloc (.cells #[.int .i64 0, .slice none 0 0, .int .i64 0, .slice none 0 0] 27) = W0 := hW0.symm
    rw [hW0']
    have hs0 : W0.heap.size = w.heap.size + 1 := by rw [hW0]; simp
    have hb0 : Below w.heap.size w W0 := by rw [hW0]; exact (Below.refl _ _).alloc (Nat.le_refl _) _
    have ht0 : W0.there w.heap.size 0 4 := by rw [hW0]; exact there_new _ _ _ _ _ rfl rfl
    clear hW0 hW0'
    go_cut [5] (fun p M => p = .pointer (some ⟨w.heap.size + 1, 0, none⟩) ∧ Fus w M (l.getD 0 0) (leastL l) (.slice none 0 0) (.slice none 0 0) [] [])
    case first =>
      have hr0 := range_below hb0 hb Hr.out
      have c0 := rangeI hr0 0 (by rw [H85.out]; omega)
      have c2 := rangeI hr0 2 (by rw [H85.out]; omega)
      have c3 := rangeI hr0 3 (by rw [H85.out]; omega)
      have c4 := rangeI hr0 4 (by rw [H85.out]; omega)
      rw [Nat.add_zero] at c0
      have hx2 := Hw.out 2 (by omega)
      have hx3 := Hw.out 3 (by omega)
      have hx4 := Hw.out 4 (by omega)
      have hle : leastL l = lF (majN (l.getD 2 0).toNat (l.getD 3 0).toNat (l.getD 4 0).toNat) := rfl
      obtain ⟨le, hLe⟩ : ∃ le, le = leastL l := ⟨_, rfl⟩
      rw [← hLe] at hle
      have HLe : Hid (leastL l = le) := hLe.symm
      generalize l.getD 0 0 = x0 at *
      generalize l.getD 2 0 = x2 at *
      generalize l.getD 3 0 = x3 at *
      generalize l.getD 4 0 = x4 at *
      obtain ⟨n2, rfl⟩ := Int.eq_ofNat_of_zero_le hx2.1
      obtain ⟨n3, rfl⟩ := Int.eq_ofNat_of_zero_le hx3.1
      obtain ⟨n4, rfl⟩ := Int.eq_ofNat_of_zero_le hx4.1
      have HC : Hid (∀ M, Calls Try.prog 15 #[.int .i64 (n2 : Int), .int .i64 (n3 : Int), .int .i64 (n4 : Int)] M fun e w' => e = .returned (.int .i64 le) ∧ ∃ n, w' = M.drewN n) := fun M => by
        have := least_any n2 n3 n4 M (by omega) (by omega) (by omega)
        rw [hle]; exact this
      have HS : Hid (S4 b off x0 n2 n3 n4 (World.drew W0)) := ⟨c0, c2, c3, c4⟩
      have Hs0 : Hid (W0.heap.size = w.heap.size + 1) := hs0
      have Hb0 : Hid (Below w.heap.size w W0) := hb0
      have Ht0 : Hid (W0.there w.heap.size 0 4) := ht0
      have Hb : Hid (b < w.heap.size) := hb
      clear hle hLe hx2 hx3 hx4 c0 c2 c3 c4 hr0 hb0 ht0
      refine wp_region_held (S := S4 b off x0 n2 n3 n4) (by kernel_rfl) ?_
      change wpAnyH _ _ _ _ _ _ _ _ (World.drew W0)
      refine wpAnyH_take (i := 0) (v := .slice (some ⟨b, off, none⟩) 85 cap) rfl (by kernel_rfl) (by kernel_rfl) (by kernel_rfl) (fun _ _ _ h => h) (Or.inl ⟨by rfl, by intro w hS; go_simp⟩) HS.out ?_
      refine wpAnyH_take (i := 1) (v := .pointer (some ⟨b, off, none⟩)) rfl (by kernel_rfl) (by kernel_rfl) (by kernel_rfl) (fun _ _ _ h => h) (Or.inl ⟨by rfl, by intro w hS; go_simp⟩) HS.out ?_
      refine wpAnyH_take (i := 2) (v := .int .i64 x0) rfl (by kernel_rfl) (by kernel_rfl) (by kernel_rfl) (fun _ _ _ h => h) (Or.inl ⟨by rfl, by intro w hS; have hc := hS.1; go_simp⟩) HS.out ?_
      refine wpAnyH_take (i := 3) (v := .slice (some ⟨b, off, none⟩) 85 cap) rfl (by kernel_rfl) (by kernel_rfl) (by kernel_rfl) (fun _ _ _ h => h) (Or.inl ⟨by rfl, by intro w hS; go_simp⟩) HS.out ?_
      refine wpAnyH_take (i := 4) (v := .pointer (some ⟨b, off + 2, none⟩)) rfl (by kernel_rfl) (by kernel_rfl) (by kernel_rfl) (fun _ _ _ h => h) (Or.inl ⟨by rfl, by intro w hS; go_simp⟩) HS.out ?_
      refine wpAnyH_take (i := 5) (v := .int .i64 (n2 : Int)) rfl (by kernel_rfl) (by kernel_rfl) (by kernel_rfl) (fun _ _ _ h => h) (Or.inl ⟨by rfl, by intro w hS; have hc := hS.2.1; go_simp⟩) HS.out ?_
      refine wpAnyH_take (i := 6) (v := .slice (some ⟨b, off, none⟩) 85 cap) rfl (by kernel_rfl) (by kernel_rfl) (by kernel_rfl) (fun _ _ _ h => h) (Or.inl ⟨by rfl, by intro w hS; go_simp⟩) HS.out ?_
      refine wpAnyH_take (i := 7) (v := .pointer (some ⟨b, off + 3, none⟩)) rfl (by kernel_rfl) (by kernel_rfl) (by kernel_rfl) (fun _ _ _ h => h) (Or.inl ⟨by rfl, by intro w hS; go_simp⟩) HS.out ?_
      refine wpAnyH_take (i := 8) (v := .int .i64 (n3 : Int)) rfl (by kernel_rfl) (by kernel_rfl) (by kernel_rfl) (fun _ _ _ h => h) (Or.inl ⟨by rfl, by intro w hS; have hc := hS.2.2.1; go_simp⟩) HS.out ?_
      refine wpAnyH_take (i := 9) (v := .slice (some ⟨b, off, none⟩) 85 cap) rfl (by kernel_rfl) (by kernel_rfl) (by kernel_rfl) (fun _ _ _ h => h) (Or.inl ⟨by rfl, by intro w hS; go_simp⟩) HS.out ?_
      refine wpAnyH_take (i := 10) (v := .pointer (some ⟨b, off + 4, none⟩)) rfl (by kernel_rfl) (by kernel_rfl) (by kernel_rfl) (fun _ _ _ h => h) (Or.inl ⟨by rfl, by intro w hS; go_simp⟩) HS.out ?_
      refine wpAnyH_take (i := 11) (v := .int .i64 (n4 : Int)) rfl (by kernel_rfl) (by kernel_rfl) (by kernel_rfl) (fun _ _ _ h => h) (Or.inl ⟨by rfl, by intro w hS; have hc := hS.2.2.2; go_simp⟩) HS.out ?_
      refine wpAnyH_all (rs := [12, 14]) (by kernel_rfl) (List.cons_ne_nil _ _) (all_two (wpOp_run rfl rfl (wp_call 15 #[.int .i64 (n2 : Int), .int .i64 (n3 : Int), .int .i64 (n4 : Int)] (by go_simp) (.int .i64 le) (fun w' => ∃ n, w' = (World.drew W0).drewN n) (HC.out _) (fun w2 hw2 => ?_))) (wpOp_run rfl rfl (wp_value (.pointer (some ⟨w.heap.size + 1, 0, none⟩)) ((World.drew W0).alloc (.cells #[.int .i64 0, .slice none 0 0, .int .i64 0, .slice none 0 0] 27)) (by go_simp; done) ?_)))
      · obtain ⟨n, rfl⟩ := hw2
        refine ⟨HS.out.drewN n, ?_⟩
        have HS1 : Hid (S4 b off x0 n2 n3 n4 ((World.drew W0).drewN n)) := HS.out.drewN n
        have HS2 : Hid (S4 b off x0 n2 n3 n4 (((World.drew W0).drewN n).alloc (.cells #[.int .i64 0, .slice none 0 0, .int .i64 0, .slice none 0 0] 27))) := HS1.out.alloc (by show b < W0.heap.size; have := Hs0.out; have := Hb.out; omega) _
        have HT : Hid ((((World.drew W0).drewN n).alloc (.cells #[.int .i64 0, .slice none 0 0, .int .i64 0, .slice none 0 0] 27)).there (w.heap.size + 1) 0 (fusV x0 (.slice none 0 0) le (.slice none 0 0)).toArray.size) := there_new _ _ _ _ _ Hs0.out.symm rfl
        have HW : Hid (Fus w (((W0.drewN (1 + n)).alloc (.cells #[.int .i64 0, .slice none 0 0, .int .i64 0, .slice none 0 0] 27)).setCells (w.heap.size + 1) 0 (fusV x0 (.slice none 0 0) le (.slice none 0 0)).toArray.toList) x0 le (.slice none 0 0) (.slice none 0 0) [] []) :=
          fus_make w ((W0.drewN (1 + n)).alloc (.cells #[.int .i64 0, .slice none 0 0, .int .i64 0, .slice none 0 0] 27)) x0 le (by rw [World.size_alloc]; show W0.heap.size + 1 = _; have := Hs0.out; omega) (Below.alloc (w := W0.drewN (1 + n)) ⟨Hb0.out.os, Hb0.out.tape, Hb0.out.output, Hb0.out.size, Hb0.out.block⟩ (by show w.heap.size ≤ W0.heap.size; have := Hs0.out; omega) _) (World.there_alloc (there_drewN Ht0.out) _) (there_new _ _ _ _ _ Hs0.out.symm rfl)
        refine wpAnyH_take (i := 13) (v := .agg #[.int .i64 x0, .slice none 0 0, .int .i64 le, .slice none 0 0]) rfl (by kernel_rfl) (by kernel_rfl) (by kernel_rfl) (fun _ _ _ h => h) (Or.inl ⟨by rfl, by intro w hS; go_simp⟩) HS1.out ?_
        refine wpAnyH_all (rs := [14]) (by kernel_rfl) (List.cons_ne_nil _ _) (all_one (wpOp_run rfl rfl (wp_value (.pointer (some ⟨w.heap.size + 1, 0, none⟩)) (((World.drew W0).drewN n).alloc (.cells #[.int .i64 0, .slice none 0 0, .int .i64 0, .slice none 0 0] 27)) (by go_simp; done) ?_)))
        refine ⟨HS2.out, ?_⟩
        refine wpAnyH_all (rs := [15]) (by kernel_rfl) (List.cons_ne_nil _ _) (all_one (wpOp_store_mid (by rfl) (by rfl) 27 (.tmp 5) (.tmp 32) (by rfl) (w.heap.size + 1) 0 (fusV x0 (.slice none 0 0) le (.slice none 0 0)).toArray (by go_simp) (by go_simp; rfl) HT.out (by kernel_rfl) (by kernel_rfl) (by rfl) ?_))
        refine ⟨HS2.out.set (by have := Hb.out; omega) _, ?_⟩
        refine wpAnyH_done (by kernel_rfl) ?_ _
        go_wp2_with fail
        go_meet
        case rel => exact ⟨rfl, by rw [HLe.out]; exact HW.out⟩
      · refine ⟨HS.out.alloc (by show b < W0.heap.size; have := Hs0.out; have := Hb.out; omega) _, ?_⟩
        have HS1 : Hid (S4 b off x0 n2 n3 n4 ((World.drew W0).alloc (.cells #[.int .i64 0, .slice none 0 0, .int .i64 0, .slice none 0 0] 27))) := HS.out.alloc (by show b < W0.heap.size; have := Hs0.out; have := Hb.out; omega) _
        refine wpAnyH_all (rs := [12]) (by kernel_rfl) (List.cons_ne_nil _ _) (all_one (wpOp_run rfl rfl (wp_call 15 #[.int .i64 (n2 : Int), .int .i64 (n3 : Int), .int .i64 (n4 : Int)] (by go_simp) (.int .i64 le) (fun w' => ∃ n, w' = ((World.drew W0).alloc (.cells #[.int .i64 0, .slice none 0 0, .int .i64 0, .slice none 0 0] 27)).drewN n) (HC.out _) (fun w2 hw2 => ?_))))
        obtain ⟨n, rfl⟩ := hw2
        refine ⟨HS1.out.drewN n, ?_⟩
        have HS2 : Hid (S4 b off x0 n2 n3 n4 (((World.drew W0).alloc (.cells #[.int .i64 0, .slice none 0 0, .int .i64 0, .slice none 0 0] 27)).drewN n)) := HS1.out.drewN n
        have HT : Hid ((((World.drew W0).alloc (.cells #[.int .i64 0, .slice none 0 0, .int .i64 0, .slice none 0 0] 27)).drewN n).there (w.heap.size + 1) 0 (fusV x0 (.slice none 0 0) le (.slice none 0 0)).toArray.size) := there_drewN (there_new _ _ _ _ _ Hs0.out.symm rfl)
        have HW : Hid (Fus w (((W0.alloc (.cells #[.int .i64 0, .slice none 0 0, .int .i64 0, .slice none 0 0] 27)).drewN (1 + n)).setCells (w.heap.size + 1) 0 (fusV x0 (.slice none 0 0) le (.slice none 0 0)).toArray.toList) x0 le (.slice none 0 0) (.slice none 0 0) [] []) :=
          fus_make w ((W0.alloc (.cells #[.int .i64 0, .slice none 0 0, .int .i64 0, .slice none 0 0] 27)).drewN (1 + n)) x0 le (by show (W0.alloc (.cells #[.int .i64 0, .slice none 0 0, .int .i64 0, .slice none 0 0] 27)).heap.size = _; rw [World.size_alloc]; show W0.heap.size + 1 = _; have := Hs0.out; omega) (by have h1 := (Below.alloc (w := W0) Hb0.out (by show w.heap.size ≤ W0.heap.size; have := Hs0.out; omega) (.cells #[.int .i64 0, .slice none 0 0, .int .i64 0, .slice none 0 0] 27)); exact ⟨h1.os, h1.tape, h1.output, h1.size, h1.block⟩) (there_drewN (World.there_alloc Ht0.out _)) (there_drewN (there_new _ _ _ _ _ Hs0.out.symm rfl))
        refine wpAnyH_take (i := 13) (v := .agg #[.int .i64 x0, .slice none 0 0, .int .i64 le, .slice none 0 0]) rfl (by kernel_rfl) (by kernel_rfl) (by kernel_rfl) (fun _ _ _ h => h) (Or.inl ⟨by rfl, by intro w hS; go_simp⟩) HS2.out ?_
        refine wpAnyH_all (rs := [15]) (by kernel_rfl) (List.cons_ne_nil _ _) (all_one (wpOp_store_mid (by rfl) (by rfl) 27 (.tmp 5) (.tmp 32) (by rfl) (w.heap.size + 1) 0 (fusV x0 (.slice none 0 0) le (.slice none 0 0)).toArray (by go_simp) (by go_simp; rfl) HT.out (by kernel_rfl) (by kernel_rfl) (by rfl) ?_))
        refine ⟨HS2.out.set (by have := Hb.out; omega) _, ?_⟩
        refine wpAnyH_done (by kernel_rfl) ?_ _
        go_wp2_with fail
        go_meet
        case rel => exact ⟨rfl, by rw [HLe.out]; exact HW.out⟩
    case rest =>
      obtain ⟨rfl, hF⟩ := hcut
      go_upto_region 5 with fail
      go_cut [6] (fun v M => v = .bool (stateB (l.getD 0 0) (l.getD 1 0) && decide (0 ≤ leastL l)) ∧ Fus w M (l.getD 0 0) (leastL l) (.slice none 0 0) (.slice none 0 0) [] [])
      case first =>
        have hr0 := range_below hF.below hb Hr.out
        have c0 := rangeI hr0 0 (by rw [H85.out]; omega)
        have c1 := rangeI hr0 1 (by rw [H85.out]; omega)
        rw [Nat.add_zero] at c0
        have c2 := hF.c2
        have HF : Hid _ := hF
        clear hF hr0
        generalize l.getD 0 0 = x at *
        generalize l.getD 1 0 = y at *
        generalize leastL l = le at *
        by_cases hxy : x = y
        · subst hxy
          have bxy : (x == x) = true := by simp
          by_cases hle : 0 ≤ le
          · have hle' : (0 : Int) ≤ le := hle
            have HL : Hid (decide (0 ≤ le) = true) := decide_eq_true hle
            by_cases h255 : x = 255
            · subst h255
              have HS : Hid ((stateB 255 255 && decide (0 ≤ le)) = true) := by show (stateB 255 255 && decide (0 ≤ le)) = true; rw [HL.out]; rfl
              go_quiet (fail)
              go_wp2_with fail
              go_meet
              case rel => exact ⟨by rw [HS.out], Fus.calm HF.out ⟨rfl, rfl, rfl, Nat.le_refl _, fun _ _ => rfl⟩⟩
            · have b255 : (x == 255) = false := by rw [beq_eq_false_iff_ne]; exact h255
              by_cases h3855 : x = 3855
              · subst h3855
                have HS : Hid ((stateB 3855 3855 && decide (0 ≤ le)) = true) := by show (stateB 3855 3855 && decide (0 ≤ le)) = true; rw [HL.out]; rfl
                go_quiet (fail)
                go_wp2_with fail
                go_meet
                case rel => exact ⟨by rw [HS.out], Fus.calm HF.out ⟨rfl, rfl, rfl, Nat.le_refl _, fun _ _ => rfl⟩⟩
              · have b3855 : (x == 3855) = false := by rw [beq_eq_false_iff_ne]; exact h3855
                by_cases h13107 : x = 13107
                · subst h13107
                  have HS : Hid ((stateB 13107 13107 && decide (0 ≤ le)) = true) := by show (stateB 13107 13107 && decide (0 ≤ le)) = true; rw [HL.out]; rfl
                  go_quiet (fail)
                  go_wp2_with fail
                  go_meet
                  case rel => exact ⟨by rw [HS.out], Fus.calm HF.out ⟨rfl, rfl, rfl, Nat.le_refl _, fun _ _ => rfl⟩⟩
                · have b13107 : (x == 13107) = false := by rw [beq_eq_false_iff_ne]; exact h13107
                  have HS : Hid ((stateB x x && decide (0 ≤ le)) = (x == 21845)) := by show (stateB x x && decide (0 ≤ le)) = _; rw [HL.out]; simp [stateB, h255, h3855, h13107]
                  go_quiet (fail)
                  go_wp2_with fail
                  go_meet
                  case rel => exact ⟨by rw [HS.out], Fus.calm HF.out ⟨rfl, rfl, rfl, Nat.le_refl _, fun _ _ => rfl⟩⟩
          · have hle' : ¬ (0 : Int) ≤ le := hle
            have HS : Hid ((stateB x x && decide (0 ≤ le)) = false) := by show (stateB x x && decide (0 ≤ le)) = false; rw [decide_eq_false hle, Bool.and_false]
            go_quiet (fail)
            go_wp2_with fail
            go_meet
            case rel => exact ⟨by rw [HS.out], Fus.calm HF.out ⟨rfl, rfl, rfl, Nat.le_refl _, fun _ _ => rfl⟩⟩
        · have bxy : (x == y) = false := by rw [beq_eq_false_iff_ne]; exact hxy
          have HS : Hid ((stateB x y && decide (0 ≤ le)) = false) := by show (stateB x y && decide (0 ≤ le)) = false; simp [stateB, bxy]
          go_quiet (fail)
          go_wp2_with fail
          go_meet
          case rel => exact ⟨by rw [HS.out], Fus.calm HF.out ⟨rfl, rfl, rfl, Nat.le_refl _, fun _ _ => rfl⟩⟩
      case rest =>
        obtain ⟨rfl, hF2⟩ := hcut
        have HF2 : Hid (Fus w wc (l.getD 0 0) (leastL l) (.slice none 0 0) (.slice none 0 0) [] []) := hF2
        clear hF hF2
        obtain ⟨ok0, hok0⟩ : ∃ ok0, ok0 = (stateB (l.getD 0 0) (l.getD 1 0) && decide (0 ≤ leastL l)) := ⟨_, rfl⟩
        rw [← hok0]
        have HK : Hid _ := hok0
        clear hok0
        go_wp2_with fail
        go_loopw [6, 7] (fun ok k wr => ∃ (n : Nat) (u h : Value), n ≤ 4 ∧ k = .int .i64 n ∧ ok = .bool (ok0 && (List.range n).all fun k => rightB (placeL l k)) ∧ Fus w wr (l.getD 0 0) (leastL l) u h ((List.range n).map fun k => refUse (placeL l k)) ((List.range n).map fun k => hashL ((placeL l k).drop 4))) (fun _ k _ => 4 - (intOf k).toNat)
        case atStart => exact ⟨0, _, _, by omega, rfl, by simp, HF2.out⟩
        case round =>
          obtain ⟨n, u, h, hn, rfl, rfl, hF⟩ := hrel
          by_cases hlt : n < 4
          · have hlt' : (n : Int) < 4 := by omega
            have hr0 := range_below hF.below hb Hr.out
            have hpl : ∀ j, j < 20 → l.getD (5 + 20 * n + j) 0 = (placeL l n).getD j 0 := fun j hj => by
              rw [placeL, List.getD_eq_getElem?_getD, List.getD_eq_getElem?_getD, List.getElem?_take_of_lt hj, List.getElem?_drop]
            have hcell : ∀ j, j < 20 → wr.cell? ⟨b, off + (5 + 20 * n + j), none⟩ = some (.int .i64 ((placeL l n).getD j 0)) := fun j hj => by
              rw [← hpl j hj]; exact rangeI hr0 (5 + 20 * n + j) (by rw [H85.out]; omega)
            have Hcell : Hid (∀ M, Below w.heap.size w M → ∀ j, j < 20 → M.cell? ⟨b, off + (5 + 20 * n + j), none⟩ = some (.int .i64 ((placeL l n).getD j 0))) := fun M hM j hj => by
              rw [← hpl j hj]; exact rangeI (range_below hM hb Hr.out) (5 + 20 * n + j) (by rw [H85.out]; omega)
            have HcW : Hid (∀ j, j < 20 → 0 ≤ (placeL l n).getD j 0 ∧ (placeL l n).getD j 0 < 65536) := fun j hj => by
              rw [← hpl j hj]; exact Hw.out _ (by omega)
            have HpL : Hid ((placeL l n).length = 20) := by show (placeL l n).length = 20; rw [placeL, List.length_take, List.length_drop, H85.out]; omega
            obtain ⟨p, hp⟩ : ∃ p : Nat, p = 5 + 20 * n := ⟨_, rfl⟩
            have hw20 : IntKind.i64.wrap (20 * (n : Int)) = 20 * (n : Int) := wrap_small _ (by omega) (by omega)
            have hpi : IntKind.i64.wrap (5 + 20 * (n : Int)) = (p : Int) := by rw [wrap_small _ (by omega) (by omega)]; omega
            have hw1 : IntKind.i64.wrap ((p : Int) + 1) = ((p + 1 : Nat) : Int) := by rw [wrap_small _ (by omega) (by omega)]; omega
            have hw2 : IntKind.i64.wrap ((p : Int) + 2) = ((p + 2 : Nat) : Int) := by rw [wrap_small _ (by omega) (by omega)]; omega
            have hw3 : IntKind.i64.wrap ((p : Int) + 3) = ((p + 3 : Nat) : Int) := by rw [wrap_small _ (by omega) (by omega)]; omega
            have hw4 : IntKind.i64.wrap ((p : Int) + 4) = ((p + 4 : Nat) : Int) := by rw [wrap_small _ (by omega) (by omega)]; omega
            have HP : Hid (5 + 20 * (n : Int) = (p : Int)) := by show _ = _; omega
            have hb0 : (p : Int) < 85 := by omega
            have hb1 : ((p + 1 : Nat) : Int) < 85 := by omega
            have hb2 : ((p + 2 : Nat) : Int) < 85 := by omega
            have hb3 : ((p + 3 : Nat) : Int) < 85 := by omega
            have hp65 : p ≤ 65 := by omega
            have hp65' : (p : Int) ≤ 65 := by omega
            have k0 := hcell 0 (by omega)
            have k1 := hcell 1 (by omega)
            have k2 := hcell 2 (by omega)
            have k3 := hcell 3 (by omega)
            rw [← hp] at k0 k1 k2 k3 Hcell
            rw [Nat.add_zero] at k0
            have HF : Hid (Fus w wr (l.getD 0 0) (leastL l) u h ((List.range n).map fun k => refUse (placeL l k)) ((List.range n).map fun k => hashL ((placeL l k).drop 4))) := hF
            have HR : Hid (((ok0 && (List.range n).all fun k => rightB (placeL l k)) && (decide (0 ≤ saidF ((placeL l n).getD 0 0) ((placeL l n).getD 1 0)) && decide (0 ≤ saidF ((placeL l n).getD 2 0) ((placeL l n).getD 3 0)))) = (ok0 && (List.range (n + 1)).all fun k => rightB (placeL l k))) := by
              show _ = _
              rw [List.range_succ, List.all_append, List.all_cons, List.all_nil, Bool.and_true, rightB, ansB_said, ansB_said, Bool.and_assoc]
            have HU : Hid (refUse (placeL l n) = ((saidF ((placeL l n).getD 0 0) ((placeL l n).getD 1 0) == 1) && (saidF ((placeL l n).getD 2 0) ((placeL l n).getD 3 0) == 0))) := rfl
            generalize (placeL l n).getD 0 0 = y0 at *
            generalize (placeL l n).getD 1 0 = y1 at *
            generalize (placeL l n).getD 2 0 = y2 at *
            generalize (placeL l n).getD 3 0 = y3 at *
            generalize (ok0 && (List.range n).all fun k => rightB (placeL l k)) = ok1 at *
            clear hF hr0 hpl hcell hp hpi hw20
            go_wp2_with fail
            rw [HP.out]
            go_quiet ((go_at_call 16; exact Calls.quiet_of_same (said_any _ _ _)))
            go_wp2_with fail
            go_quiet ((go_at_call 16; exact (said_any _ _ _).mono (fun _ _ h => ⟨h.1, _, h.2⟩)))
            generalize saidF y0 y1 = use at *
            generalize saidF y2 y3 = gone at *
            go_upto_region 12 with fail
            go_cut [6] (fun v M => v = .bool (ok1 && (decide (0 ≤ use) && decide (0 ≤ gone))) ∧ ∃ m, M = wr.drewN m)
            case first =>
              cases ok1 with
              | false =>
                go_wp2_with fail
                go_meet
                case rel => exact ⟨rfl, _, rfl⟩
              | true =>
                by_cases hu : 0 ≤ use
                · have HD : Hid (decide (0 ≤ use) = true) := decide_eq_true hu
                  by_cases hg : 0 ≤ gone
                  · have HD2 : Hid (decide (0 ≤ gone) = true) := decide_eq_true hg
                    go_wp2_with fail
                    go_meet
                    case rel => exact ⟨by rw [HD.out, HD2.out]; rfl, _, rfl⟩
                  · have HD2 : Hid (decide (0 ≤ gone) = false) := decide_eq_false hg
                    go_wp2_with fail
                    go_meet
                    case rel => exact ⟨by rw [HD.out, HD2.out]; rfl, _, rfl⟩
                · have HD : Hid (decide (0 ≤ use) = false) := decide_eq_false hu
                  go_wp2_with fail
                  go_meet
                  case rel => exact ⟨by rw [HD.out]; rfl, _, rfl⟩
            case rest =>
              obtain ⟨rfl, m, rfl⟩ := hcut
              rw [HR.out]
              obtain ⟨ok2, hok2⟩ : ∃ x, x = (ok0 && (List.range (n + 1)).all fun k => rightB (placeL l k)) := ⟨_, rfl⟩
              rw [← hok2]
              have HK2 : Hid (ok2 = (ok0 && (List.range (n + 1)).all fun k => rightB (placeL l k))) := hok2
              clear hok2 HR
              have hFm : Fus w (wr.drewN m) (l.getD 0 0) (leastL l) u h ((List.range n).map fun k => refUse (placeL l k)) ((List.range n).map fun k => hashL ((placeL l k).drop 4)) := Fus.calm HF.out ⟨rfl, rfl, rfl, Nat.le_refl _, fun _ _ => rfl⟩
              have hUl : ((List.range n).map fun k => refUse (placeL l k)).length ≤ 3 := by simp; omega
              have HUs : Hid ((List.range (n + 1)).map (fun k => refUse (placeL l k)) = ((List.range n).map fun k => refUse (placeL l k)) ++ [(use == 1) && (gone == 0)]) := by
                show _ = _
                rw [List.range_succ, List.map_append, List.map_cons, List.map_nil, HU.out]
              generalize ((List.range n).map fun k => refUse (placeL l k)) = U at *
              obtain ⟨a, cu, hu⟩ := own_form hFm.ou
              subst hu
              have c1 := hFm.c1
              have HFm : Hid (Fus w (wr.drewN m) (l.getD 0 0) (leastL l) (.slice a U.length cu) h U ((List.range n).map fun k => hashL ((placeL l k).drop 4))) := hFm
              clear hFm HF
              obtain ⟨i0, hi, hz0, hz1, hz2⟩ := info_parts Try.infoBool
              go_upto_region 13 with fail
              go_cut [] (fun M => ∃ u', Fus w M (l.getD 0 0) (leastL l) u' h (U ++ [(use == 1) && (gone == 0)]) ((List.range n).map fun k => hashL ((placeL l k).drop 4)))
              case first =>
                by_cases hu : use = 1
                · subst hu
                  have HE : Hid (((1 : Int) == 1 && (gone == 0)) = (gone == 0)) := by show _ = _; simp
                  go_wp2_with (first
                    | refine wpList_append_own _ (by rfl) _ _ 24 (by rfl) (w.heap.size + 2) 4 i0 (.bool false) 1 1 Try.underlying24 hi hz0 hz1 hz2 (by rfl) (by decide) (.slice a U.length cu) U.length (boolsV U) (by rfl) (by exact World.ownsRow.alloc HFm.out.ou _) ⟨(wr.drewN m).heap.size, 0, none⟩ 1 1 [.bool (gone == 0)] (by rfl) (by rfl) (by exact cell_one_new _ _ _) (by simp [Value.oneCell']) (by unfold maxLen; omega) (by omega) (by simp only [World.size_alloc]; have := HFm.out.size; omega) ?_)
                  intro v' w4 hown' hgrow _
                  obtain ⟨⟨d1, df⟩, hF4⟩ := HFm.out.appU (U' := U ++ [(gone == 0)]) hgrow (by simpa [boolsV] using hown')
                  obtain ⟨a4, cap4, hu4⟩ := own_form hF4.ou
                  subst hu4
                  rw [List.length_append, List.length_singleton] at hF4
                  have HF4 : Hid _ := hF4
                  clear hF4 hown' hgrow
                  go_wp2_with fail
                  go_meet
                  case rel => exact ⟨_, by rw [HE.out]; exact HF4.out⟩
                · have hub : (use == 1) = false := by rw [beq_eq_false_iff_ne]; exact hu
                  have HE : Hid ((use == 1 && (gone == 0)) = false) := by show _ = _; rw [hub]; rfl
                  go_wp2_with (first
                    | refine wpList_append_own _ (by rfl) _ _ 24 (by rfl) (w.heap.size + 2) 4 i0 (.bool false) 1 1 Try.underlying24 hi hz0 hz1 hz2 (by rfl) (by decide) (.slice a U.length cu) U.length (boolsV U) (by rfl) (by exact World.ownsRow.alloc HFm.out.ou _) ⟨(wr.drewN m).heap.size, 0, none⟩ 1 1 [.bool false] (by rfl) (by rfl) (by exact cell_one_new _ _ _) (by simp [Value.oneCell']) (by unfold maxLen; omega) (by omega) (by simp only [World.size_alloc]; have := HFm.out.size; omega) ?_)
                  intro v' w4 hown' hgrow _
                  obtain ⟨⟨d1, df⟩, hF4⟩ := HFm.out.appU (U' := U ++ [false]) hgrow (by simpa [boolsV] using hown')
                  obtain ⟨a4, cap4, hu4⟩ := own_form hF4.ou
                  subst hu4
                  rw [List.length_append, List.length_singleton] at hF4
                  have HF4 : Hid _ := hF4
                  clear hF4 hown' hgrow
                  go_wp2_with fail
                  go_meet
                  case rel => exact ⟨_, by rw [HE.out]; exact HF4.out⟩
              case rest =>
                obtain ⟨u', hF⟩ := hcut
                rw [← HUs.out] at hF
                have HG : Hid (Fus w wc (l.getD 0 0) (leastL l) u' h ((List.range (n + 1)).map fun k => refUse (placeL l k)) ((List.range n).map fun k => hashL ((placeL l k).drop 4))) := hF
                clear hF HUs HFm c1 hi hz0 hz1 hz2
                go_wp2_with fail
                go_loopw [11, 12] (fun t i wi => ∃ j : Nat, j ≤ 16 ∧ i = .int .i64 j ∧ t = .string ⟨(hashL (((placeL l n).drop 4).take j)).toArray⟩ ∧ Fus w wi (l.getD 0 0) (leastL l) u' h ((List.range (n + 1)).map fun k => refUse (placeL l k)) ((List.range n).map fun k => hashL ((placeL l k).drop 4))) (fun _ i _ => 16 - (intOf i).toNat)
                case atStart => exact ⟨0, by omega, rfl, rfl, HG.out⟩
                case round =>
                  clear HG
                  obtain ⟨j, hj, rfl, rfl, hFi⟩ := hrel
                  by_cases hjt : j < 16
                  · have hjt' : (j : Int) < 16 := by omega
                    have hc := Hcell.out wr hFi.below (4 + j) (by omega)
                    have hx := HcW.out (4 + j) (by omega)
                    have HT : Hid (((placeL l n).drop 4).take (j + 1) = ((placeL l n).drop 4).take j ++ [(placeL l n).getD (4 + j) 0]) := by
                      show ((placeL l n).drop 4).take (j + 1) = _
                      have h1 : j < ((placeL l n).drop 4).length := by rw [List.length_drop, HpL.out]; omega
                      rw [List.take_succ_eq_append_getElem h1, List.getElem_drop, List.getD_eq_getElem?_getD, List.getElem?_eq_getElem (by rw [HpL.out]; omega)]; rfl
                    generalize (placeL l n).getD (4 + j) 0 = x at *
                    obtain ⟨v, rfl⟩ := Int.eq_ofNat_of_zero_le hx.1
                    have HH : Hid (hashL (((placeL l n).drop 4).take (j + 1)) = hashL (((placeL l n).drop 4).take j) ++ octF v 2) := by
                      show hashL _ = _
                      rw [HT.out, hashL, List.flatMap_append]; simp [hashL]
                    have HFi : Hid (Fus w wr (l.getD 0 0) (leastL l) u' h ((List.range (n + 1)).map fun k => refUse (placeL l k)) ((List.range n).map fun k => hashL ((placeL l k).drop 4))) := hFi
                    have hc' : wr.cell? ⟨b, off + (p + 4 + j), none⟩ = some (.int .i64 v) := by rw [Nat.add_assoc]; exact hc
                    have hw5 : IntKind.i64.wrap (((p + 4 : Nat) : Int) + (j : Int)) = ((p + 4 + j : Nat) : Int) := by rw [wrap_small _ (by omega) (by omega)]; omega
                    have hb5 : ((p + 4 + j : Nat) : Int) < 85 := by omega
                    have hSl : (hashL (((placeL l n).drop 4).take j)).length ≤ 32 := by rw [hashL_length, List.length_take]; omega
                    have hOl : (octF v 2).length = 2 := octF_length 2 v
                    generalize hashL (((placeL l n).drop 4).take j) = S at *
                    have hno : ¬ (9223372036854775807 < S.length + (octF v 2).length) := by omega
                    clear hc hx hFi HT
                    go_wp2_with fail
                    refine (refU_any v 2 _ (by omega)).mono ?_
                    rintro e w1 ⟨rfl, hb1⟩
                    have Hb1 : Hid _ := hb1
                    clear hb1
                    generalize octF v 2 = O at *
                    go_wp2_with fail
                    go_roundw
                    case rel => exact ⟨j + 1, by omega, by go_num, by rw [HH.out, ← catB], HFi.out.calm Hb1.out⟩
                    case measure => simp [intOf]; omega
                  · have hj16 : j = 16 := by omega
                    subst hj16
                    have hjt' : ¬ ((16 : Nat) : Int) < 16 := by decide
                    have HT : Hid (((placeL l n).drop 4).take 16 = (placeL l n).drop 4) := List.take_of_length_le (by rw [List.length_drop, HpL.out]; omega)
                    rw [HT.out]
                    have HHs : Hid ((List.range (n + 1)).map (fun k => hashL ((placeL l k).drop 4)) = ((List.range n).map fun k => hashL ((placeL l k).drop 4)) ++ [hashL ((placeL l n).drop 4)]) := by
                      show _ = _
                      rw [List.range_succ, List.map_append, List.map_cons, List.map_nil]
                    have hHl : ((List.range n).map fun k => hashL ((placeL l k).drop 4)).length ≤ 3 := by simp; omega
                    generalize hashL ((placeL l n).drop 4) = S at *
                    generalize ((List.range n).map fun k => hashL ((placeL l k).drop 4)) = HL at *
                    obtain ⟨a2, ch, hh2⟩ := own_form hFi.oh
                    subst hh2
                    have c3 := hFi.c3
                    have HFi : Hid (Fus w wr (l.getD 0 0) (leastL l) u' (.slice a2 HL.length ch) ((List.range (n + 1)).map fun k => refUse (placeL l k)) HL) := hFi
                    clear hFi HT
                    obtain ⟨i0, hi, hz0, hz1, hz2⟩ := info_parts Try.infoText
                    go_wp2_with (first
                      | refine wpList_append_own _ (by rfl) _ _ 25 (by rfl) (w.heap.size + 2) 9 i0 (.string ⟨#[]⟩) 1 16 Try.underlying25 hi hz0 hz1 hz2 (by rfl) (by decide) (.slice a2 HL.length ch) HL.length (textsV HL) (by rfl) (by exact World.ownsRow.alloc HFi.out.oh _) ⟨wr.heap.size, 0, none⟩ 1 1 [.string ⟨S.toArray⟩] (by rfl) (by rfl) (by exact cell_one_new _ _ _) (by simp [Value.oneCell']) (by unfold maxLen; omega) (by omega) (by simp only [World.size_alloc]; have := HFi.out.size; omega) ?_)
                    intro v' w4 hown' hgrow _
                    obtain ⟨⟨d1, df⟩, hF4⟩ := HFi.out.appH (H' := HL ++ [S]) hgrow (by simpa [textsV] using hown')
                    obtain ⟨a4, cap4, hu4⟩ := own_form hF4.oh
                    subst hu4
                    rw [List.length_append, List.length_singleton] at hF4
                    have HF4 : Hid _ := hF4
                    clear hF4 hown' hgrow
                    go_wp2_with fail
                    go_roundw
                    case rel => exact ⟨n + 1, _, _, by omega, by go_num, by rw [HK2.out], by rw [HHs.out]; exact HF4.out⟩
                    case measure => simp [intOf]; omega
          · have hn4 : n = 4 := by omega
            subst hn4
            have hlt' : ¬ ((4 : Nat) : Int) < 4 := by decide
            have HOK : Hid (okF l = (ok0 && (List.range 4).all fun k => rightB (placeL l k))) := by show okF l = _; rw [okF, HK.out]
            have HRt : Hid ((ok0 && (List.range 4).all fun k => rightB (placeL l k)) = true → ((List.range 4).map fun k => refUse (placeL l k)) = (List.range 4).map fun k => usableB (placeL l k)) := fun h => by
              rw [Bool.and_eq_true] at h
              exact List.map_congr_left fun k hk => refUse_right _ (List.all_eq_true.1 h.2 k hk)
            have HTz : Hid (wr.there w.heap.size 0 (fusV 0 (.slice none 0 0) 0 (.slice none 0 0)).toArray.size) := hF.res
            have HTl : Hid (wr.there w.heap.size 0 (fusV 0 (.slice none 0 0) 0 (.slice none 0 0)).length) := hF.res
            generalize ((List.range 4).map fun k => refUse (placeL l k)) = UL at *
            generalize hHL : ((List.range 4).map fun k => hashL ((placeL l k).drop 4)) = HL at *
            have HHL : Hid (((List.range 4).map fun k => hashL ((placeL l k).drop 4)) = HL) := hHL
            clear hHL
            obtain ⟨a, cu, hu⟩ := own_form hF.ou
            subst hu
            obtain ⟨a2, ch, hh⟩ := own_form hF.oh
            subst hh
            have HF : Hid (Fus w wr (l.getD 0 0) (leastL l) (.slice a UL.length cu) (.slice a2 HL.length ch) UL HL) := hF
            have HUz : Hid (wr.there w.heap.size 0 (fusV (l.getD 0 0) (.slice a UL.length cu) (leastL l) (.slice a2 HL.length ch)).toArray.size) := hF.res
            have HUl : Hid (wr.there w.heap.size 0 (fusV (l.getD 0 0) (.slice a UL.length cu) (leastL l) (.slice a2 HL.length ch)).length) := hF.res
            have HR : Hid (wr.rangeAt (w.heap.size + 1) 0 (fusV (l.getD 0 0) (.slice a UL.length cu) (leastL l) (.slice a2 HL.length ch))) := hF.row
            clear hF HF2
            cases hok : (ok0 && (List.range 4).all fun k => rightB (placeL l k)) with
            | false =>
              have HFn : Hid (fusF l = (0, [], 0, [], 1)) := by show fusF l = _; rw [fusF, if_pos HA.out, if_neg (by rw [HOK.out, hok]; simp)]
              clear hok
              go_wp2_with (refine wpList_store_mid (by rfl) 27 (.tmp 2) (.tmp 140) (by rfl) w.heap.size 0 (fusV 0 (.slice none 0 0) 0 (.slice none 0 0)).toArray (by rfl) (by rfl) (by exact HTz.out) (by kernel_rfl) (by kernel_rfl) ?_)
              exact bodyPost_ret (v := .tuple #[.agg (fusV 0 (.slice none 0 0) 0 (.slice none 0 0)).toArray, .int .i64 1]) (results_cell_tmp (p := 2) (q := 3) (ty := 27) (by kernel_rfl) _ _ w.heap.size 0 (fusV 0 (.slice none 0 0) 0 (.slice none 0 0)) _ _ rfl (World.rangeAt_setCells_same _ _ _ _ HTl.out) rfl Try.underlying27 rfl (by kernel_rfl)) rfl ⟨0, 0, _, _, 1, rfl, below_setCells (Nat.le_refl _) _ _ _ _ HF.out.below, fusAns_none _ _ _ _ HFn.out⟩
            | true =>
              have HFn : Hid (fusF l = (l.getD 0 0, UL, leastL l, HL, 0)) := by show fusF l = _; rw [fusF, if_pos HA.out, if_pos (by rw [HOK.out, hok]), HHL.out, HRt.out hok]
              have HAns : Hid (FusAns (wr.setCells w.heap.size 0 (fusV (l.getD 0 0) (.slice a UL.length cu) (leastL l) (.slice a2 HL.length ch)).toArray.toList) w.heap.size l (l.getD 0 0) (leastL l) (.slice a UL.length cu) (.slice a2 HL.length ch) 0) :=
                ⟨UL, HL, World.ownsRow.mono (own_sets (by omega) _ _ _ HF.out.ou) (by omega), World.ownsRow.mono (own_sets (by omega) _ _ _ HF.out.oh) (by omega), HFn.out⟩
              clear hok
              go_wp2_with (first
                | refine wpList_load_mid (by rfl) 27 (.tmp 5) (by rfl) (w.heap.size + 1) 0 (by rfl) (fusV (l.getD 0 0) (.slice a UL.length cu) (leastL l) (.slice a2 HL.length ch)) _ (by exact HR.out) Try.underlying27 (by rfl) (by kernel_rfl) ?_
                | refine wpList_store_mid (by rfl) 27 (.tmp 2) (.tmp 141) (by rfl) w.heap.size 0 (fusV (l.getD 0 0) (.slice a UL.length cu) (leastL l) (.slice a2 HL.length ch)).toArray (by rfl) (by rfl) (by exact HUz.out) (by kernel_rfl) (by kernel_rfl) ?_)
              exact bodyPost_ret (v := .tuple #[.agg (fusV (l.getD 0 0) (.slice a UL.length cu) (leastL l) (.slice a2 HL.length ch)).toArray, .int .i64 0]) (results_cell_tmp (p := 2) (q := 3) (ty := 27) (by kernel_rfl) _ _ w.heap.size 0 (fusV (l.getD 0 0) (.slice a UL.length cu) (leastL l) (.slice a2 HL.length ch)) _ _ rfl (World.rangeAt_setCells_same _ _ _ _ HUl.out) rfl Try.underlying27 rfl (by kernel_rfl)) rfl ⟨_, _, _, _, 0, rfl, below_setCells (Nat.le_refl _) _ _ _ _ HF.out.below, HAns.out⟩
  · have HF : Hid (fusF l = (0, [], 0, [], 11)) := by show fusF l = _; rw [fusF, if_neg hA]
    rw [Bool.not_eq_true] at hA
    rw [hA] at Hwd
    clear hA
    go_enter Try.func7, Try.ntmps7
    go_wp2_with fail
    refine (Hwd.out _).mono ?_
    rintro e w1 ⟨rfl, rfl⟩
    have Hth : Hid ((w.alloc (.cells #[.int .i64 0, .slice none 0 0, .int .i64 0, .slice none 0 0] 27)).there w.heap.size 0 (fusV 0 (.slice none 0 0) 0 (.slice none 0 0)).toArray.size) := there_new _ _ _ _ _ rfl rfl
    go_wp2_with (refine wpList_store_mid rfl 27 (.tmp 2) (.tmp 18) rfl w.heap.size 0 (fusV 0 (.slice none 0 0) 0 (.slice none 0 0)).toArray rfl rfl Hth.out (by kernel_rfl) (by kernel_rfl) ?_)
    exact bodyPost_ret (v := .tuple #[.agg (fusV 0 (.slice none 0 0) 0 (.slice none 0 0)).toArray, .int .i64 11]) (results_cell_tmp (p := 2) (q := 3) (ty := 27) (by kernel_rfl) _ _ w.heap.size 0 (fusV 0 (.slice none 0 0) 0 (.slice none 0 0)) _ _ rfl (World.rangeAt_setCells_same _ _ _ _ Hth.out) rfl Try.underlying27 rfl (by kernel_rfl)) rfl ⟨0, 0, _, _, 11, rfl, below_setCells (Nat.le_refl _) _ _ _ _ ((Below.refl _ _).alloc (Nat.le_refl _) _), fusAns_none _ _ _ _ HF.out⟩

end Go.Proofs.Ytkmoglhgkcnalaa
