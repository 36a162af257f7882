/- The reference's block: what 64 bytes make of eight words. -/
import Derived.Test.YtkmoglhgkcnalaaDoorRefWords
import Derived.Test.YtkmoglhgkcnalaaDoorAid4
import Derived.Deep.RegionHeld3
namespace Go.Proofs.YtkmoglhgkcnalaaDoor
open Go.RowKit

/-- integers as cells -/
def cellsI (l : List Int) : List Value := l.map fun x => Value.int .i64 x
theorem cellsI_length (l : List Int) : (cellsI l).length = l.length := by simp [cellsI]
theorem cellsI_one (l : List Int) : ∀ v ∈ cellsI l, v.oneCell' = true := by
  intro v hv; simp only [cellsI, List.mem_map] at hv; obtain ⟨x, _, rfl⟩ := hv; rfl
theorem getI (L : List Int) (k : Nat) (h : k < L.length) : (cellsI L)[k]? = some (.int .i64 (L.getD k 0)) := by
  simp [cellsI, h]
theorem rangeI {w : World} {b o : Nat} {L : List Int} (h : w.rangeAt b o (cellsI L)) (k : Nat) (hk : k < L.length) : w.cell? ⟨b, o + k, none⟩ = some (.int .i64 (L.getD k 0)) := h k _ (getI L k hk)
theorem rangeI0 {w : World} {b : Nat} {L : List Int} (h : w.rangeAt b 0 (cellsI L)) (k : Nat) (hk : k < L.length) : w.cell? ⟨b, k, none⟩ = some (.int .i64 (L.getD k 0)) := by
  have := rangeI h k hk; rwa [Nat.zero_add] at this
theorem setI (L : List Int) (k : Nat) (v : Int) : (cellsI L).set k (.int .i64 v) = cellsI (L.set k v) := by simp [cellsI, List.map_set]

theorem schedI_set (B : List UInt8) (k : Nat) (h : k < 64) (v : Int) (hv : v = if k < 16 then wordF B k else nextF (schedTo B k) k) : (cellsI (schedC B k)).set k (.int .i64 v) = cellsI (schedC B (k + 1)) := by
  subst hv
  rw [schedC, schedC, show 64 - k = (64 - (k + 1)) + 1 from by omega, List.replicate_succ, cellsI, cellsI, schedTo]
  rw [List.map_append, List.set_append_right _ _ (by simp [schedTo_length])]
  simp [schedTo_length]
theorem schedI_get (B : List UInt8) (k j : Nat) (h : j < k) : (cellsI (schedC B k))[j]? = some (.int .i64 ((schedTo B k).getD j 0)) := by
  rw [schedC, cellsI, List.map_append, List.getElem?_append_left (by simp [schedTo_length]; omega)]
  simp [schedTo_length, h]
theorem schedI_some (B : List UInt8) (k : Nat) (hk : k < 64) : (cellsI (schedC B k))[k]? = some (.int .i64 0) := by
  rw [schedC, cellsI, List.map_append, List.getElem?_append_right (by simp [schedTo_length])]
  rw [List.map_replicate, List.getElem?_replicate, if_pos (by simp [schedTo_length]; omega)]
theorem schedI_start (B : List UInt8) : cellsI (schedC B 0) = List.replicate 64 (.int .i64 0) := by
  simp [schedC, schedTo, cellsI]

/-- the world ahead of the block's own array: what it has laid -/
structure BlkW (w M : World) (H KS : List Int) (kb cap : Nat) (hs : Value) : Prop where
  size : M.heap.size = w.heap.size + 1 + 1 + 1
  below : Below w.heap.size w M
  crow : M.cell? ⟨w.heap.size, 1, none⟩ = some (.slice (some ⟨kb, 0, none⟩) 64 cap)
  hrow : M.rangeAt (w.heap.size + 1) 0 (cellsI H)
  res : M.there (w.heap.size + 1 + 1) 0 8
  krow : M.rangeAt kb 0 (cellsI KS)
  hsv : hs = hs

/-- the world in which the rounds go -/
structure RndW (w N : World) (H KS S : List Int) (kb cap : Nat) : Prop where
  size : N.heap.size = w.heap.size + 1 + 1 + 1 + 1
  below : Below w.heap.size w N
  crow : N.cell? ⟨w.heap.size, 1, none⟩ = some (.slice (some ⟨kb, 0, none⟩) 64 cap)
  hrow : N.rangeAt (w.heap.size + 1) 0 (cellsI H)
  res : N.there (w.heap.size + 1 + 1) 0 8
  srow : N.rangeAt (w.heap.size + 1 + 1 + 1) 0 (cellsI S)
  krow : N.rangeAt kb 0 (cellsI KS)

theorem rndW_make {w M : World} {H KS : List Int} {kb cap : Nat} {hs : Value} (h : BlkW w M H KS kb cap hs) (S : List Int) (T : TypeId) (n : Nat) : RndW w ((M.alloc (.cells (cellsI S).toArray T)).drewN n) H KS S kb cap :=
  ⟨by show (M.alloc _).heap.size = _; rw [World.size_alloc, h.size], below_drewN (h.below.alloc (by rw [h.size]; omega) _) n,
   by show (M.alloc _).cell? _ = _; rw [World.cell?_alloc_past _ _ _ (by rw [h.size]; omega)]; exact h.crow,
   range_drewN (World.rangeAt_alloc h.hrow _), there_drewN (World.there_alloc h.res _), range_drewN (range_new _ _ _ _ h.size.symm), range_drewN (World.rangeAt_alloc h.krow _)⟩

/-- what a block's words grow to, so many of them reckoned -/
def mixR (H G : List Int) (k : Nat) : List Int := (List.range 8).map fun i => if i < k then IntKind.u32.wrap (H.getD i 0 + G.getD i 0) else G.getD i 0
theorem mixR_length (H G : List Int) (k : Nat) : (mixR H G k).length = 8 := by simp [mixR]
theorem mixR_start (H : List Int) (G : St) : mixR H G.list 0 = G.list := rfl
theorem mixR_end (H G : List Int) : mixR H G 8 = mixTo H G 8 := by
  apply List.ext_getElem
  · simp [mixR, mixTo]
  · intro i h1 h2
    have h3 : i < 8 := by simpa [mixTo] using h2
    simp [mixR, mixTo, h3]
theorem mixR_get (H G : List Int) (k : Nat) (h : k < 8) : (mixR H G k).getD k 0 = G.getD k 0 := by
  rw [mixR, List.getD_eq_getElem?_getD, List.getElem?_map, List.getElem?_range h]; simp
theorem mixR_set (H G : List Int) (k : Nat) : (cellsI (mixR H G k)).set k (.int .i64 (IntKind.u32.wrap (H.getD k 0 + G.getD k 0))) = cellsI (mixR H G (k + 1)) := by
  rw [setI]
  congr 1
  apply List.ext_getElem
  · simp [mixR]
  · intro i h1 h2
    have hi : i < 8 := by simpa [mixR] using h2
    rw [List.getElem_set]
    simp only [mixR, List.getElem_map, List.getElem_range]
    by_cases e : k = i
    · subst e; simp
    · rw [if_neg e]
      by_cases e2 : i < k
      · rw [if_pos e2, if_pos (by omega)]
      · rw [if_neg e2, if_neg (by omega)]
theorem wd_list {G : St} (h : G.Wd) : Wds G.list := by
  intro i
  by_cases h8 : i < 8
  · have : i = 0 ∨ i = 1 ∨ i = 2 ∨ i = 3 ∨ i = 4 ∨ i = 5 ∨ i = 6 ∨ i = 7 := by omega
    rcases this with rfl | rfl | rfl | rfl | rfl | rfl | rfl | rfl
    · exact h.a
    · exact h.b
    · exact h.c
    · exact h.d
    · exact h.e
    · exact h.f
    · exact h.g
    · exact h.h
  · rw [List.getD_eq_getElem?_getD, List.getElem?_eq_none (by simp [St.list]; omega)]; exact wd0

theorem blkW_make (w : World) (H KS : List Int) (kb cap : Nat) (hs : Value) (T1 T2 T3 : TypeId) (hK : w.rangeAt kb 0 (cellsI KS)) (z8 : Array Value) (h8 : z8.size = 8) :
    BlkW w (((w.alloc (.cells #[hs, .slice (some ⟨kb, 0, none⟩) 64 cap] T1)).alloc (.cells (cellsI H).toArray T2)).alloc (.cells z8 T3)) H KS kb cap hs := by
  refine ⟨by simp, (((Below.refl _ _).alloc (Nat.le_refl _) _).alloc (by simp) _).alloc (by simp; omega) _, ?_, ?_, ?_, ?_, rfl⟩
  · rw [World.cell?_alloc_past _ _ _ (by simp; omega), World.cell?_alloc_past _ _ _ (by simp), World.cell?_alloc_at _ _ _ _ rfl]; rfl
  · exact World.rangeAt_alloc (range_new _ _ _ _ (by simp)) _
  · exact there_new _ _ _ _ _ (by simp) h8
  · exact World.rangeAt_alloc (World.rangeAt_alloc (World.rangeAt_alloc hK _) _) _

theorem wrap_small (n : Int) (h0 : 0 ≤ n) (h1 : n ≤ 9223372036854775807) : IntKind.i64.wrap n = n := by rw [IntKind.wrap_i64]; omega
theorem word_at (L : List UInt8) (a k : Nat) (hk : k < 16) (h : a + 64 ≤ L.length) : numF [L.getD (a + 4 * k) 0, L.getD (a + 4 * k + 1) 0, L.getD (a + 4 * k + 2) 0, L.getD (a + 4 * k + 3) 0] = wordF ((L.drop a).take 64) k := by
  have e : (((L.drop a).take 64).drop (4 * k)).take 4 = [L.getD (a + 4 * k) 0, L.getD (a + 4 * k + 1) 0, L.getD (a + 4 * k + 2) 0, L.getD (a + 4 * k + 3) 0] := by
    apply List.ext_getElem
    · simp; omega
    · intro i h1 h2
      have hi : i < 4 := by simpa using h2
      have hg : ∀ j (hj : j < L.length), L.getD j 0 = L[j] := fun j hj => by rw [List.getD_eq_getElem?_getD, List.getElem?_eq_getElem hj]; rfl
      have : i = 0 ∨ i = 1 ∨ i = 2 ∨ i = 3 := by omega
      rcases this with rfl | rfl | rfl | rfl
      · simp only [List.getElem_cons_zero]; rw [hg _ (by omega)]; simp
      · simp only [List.getElem_cons_zero, List.getElem_cons_succ]; rw [hg _ (by omega)]; simp [Nat.add_assoc]
      · simp only [List.getElem_cons_zero, List.getElem_cons_succ]; rw [hg _ (by omega)]; simp [Nat.add_assoc]
      · simp only [List.getElem_cons_zero, List.getElem_cons_succ]; rw [hg _ (by omega)]; simp [Nat.add_assoc]
  rw [wordF, e]
  have := numF_lt [L.getD (a + 4 * k) 0, L.getD (a + 4 * k + 1) 0, L.getD (a + 4 * k + 2) 0, L.getD (a + 4 * k + 3) 0] 4 (by simp)
  rw [IntKind.wrap_u32, Int.emod_eq_of_lt this.1 (by simpa using this.2)]
theorem index_str (s : ByteArray) (p : Nat) (i : Int) (hi : i = (p : Int)) (h : p < s.size) (W : World) : (Instr.index 9 (.string s) (.int .i64 i)).run Tryd.prog W = .ok (.int .u8 ((s.data.toList.getD p 0).toNat : Int)) W := by
  subst hi
  have h2 : s.data.toList.getD p 0 = s[p] := by
    rw [List.getD_eq_getElem?_getD, List.getElem?_eq_getElem (by simpa using h)]; rfl
  rw [h2]
  simp [Instr.index, asIntOf, run_underlying Tryd.underlying9, h]

theorem I_cell {M W0 : World} {L : List Value} {n b j : Nat} {v : Value} (hM : M = (W0.alloc (.cells L.toArray 71)).drewN n) (hb : W0.heap.size = b) (h : L[j]? = some v) : M.cell? ⟨b, j, none⟩ = some v := by
  subst hM; simp only [World.cell?_drewN]; rw [World.cell?_alloc_at _ _ _ _ hb.symm]; simpa using h
theorem I_frozen {M W0 : World} {L : List Value} {n b : Nat} (hM : M = (W0.alloc (.cells L.toArray 71)).drewN n) (hb : W0.heap.size = b) (j : Nat) : M.frozen? ⟨b, j, none⟩ = false := by
  subst hM; simp only [World.frozen?_drewN]; rw [World.frozen?_alloc_at _ _ _ _ hb.symm]
theorem I_set {M W0 : World} {L : List Value} {n b : Nat} (hM : M = (W0.alloc (.cells L.toArray 71)).drewN n) (hb : W0.heap.size = b) (a j : Nat) (v : Value) : (M.drewN a).setCell ⟨b, j, none⟩ v = (W0.alloc (.cells (L.set j v).toArray 71)).drewN (n + a) := by
  subst hM
  rw [World.drewN_drewN]
  show ((W0.alloc (.cells L.toArray 71)).setCell ⟨b, j, none⟩ v).drewN (n + a) = _
  rw [World.setCell_alloc_at _ _ _ _ _ hb.symm]
  simp

set_option maxRecDepth 100000 in
set_option maxHeartbeats 2000000 in
theorem block_any (H KS : List Int) (s : ByteArray) (at' kb cap : Nat) (hs : Value) (w : World) (hH : H.length = 8) (hHw : Wds H) (hKl : KS.length = 64) (hKw : Wds KS) (hK : w.rangeAt kb 0 (cellsI KS))
    (hat : at' + 64 ≤ s.size) (hsz : s.size ≤ 281474976710656) :
    Calls Tryd.prog 28 #[.agg #[hs, .slice (some ⟨kb, 0, none⟩) 64 cap], .agg (cellsI H).toArray, .string s, .int .i64 (at' : Int)] w
      fun e w' => e = .returned (.agg (cellsI (mixF KS H ((s.data.toList.drop at').take 64))).toArray) ∧ Below w.heap.size w w' := by
  have HK : Hid (w.rangeAt kb 0 (cellsI KS)) := hK
  clear hK
  go_enter Tryd.func28, Tryd.ntmps28
  go_wp2
  refine wp_gen (fun M => ∃ M0, BlkW w M0 H KS kb cap hs ∧ M = M0.alloc (.cells (cellsI (schedC (((s.data.toList.drop at').take 64)) 0)).toArray 71)) ?_ ?_
  · exact ⟨_, blkW_make w H KS kb cap hs _ _ _ HK.out _ rfl, by rw [schedI_start]; rfl⟩
  rintro _ ⟨M, hM, rfl⟩
  have HM : Hid (BlkW w M H KS kb cap hs) := hM
  have hMs : M.heap.size = w.heap.size + 1 + 1 + 1 := hM.size
  clear hM
  generalize hB : (s.data.toList.drop at').take 64 = B
  have HB : Hid ((s.data.toList.drop at').take 64 = B) := hB
  clear hB
  go_loopw [10] (fun i wr => ∃ (k n : Nat), k ≤ 16 ∧ i = .int .i64 k ∧ wr = (M.alloc (.cells (cellsI (schedC B k)).toArray 71)).drewN n) (fun i _ => 16 - (intOf i).toNat)
  case atStart => exact ⟨0, 0, by omega, rfl, rfl⟩
  case round =>
    obtain ⟨k, n, hk, rfl, rfl⟩ := hrel
    by_cases hlt : k < 16
    · obtain ⟨p, hp⟩ : ∃ p, p = at' + 4 * k := ⟨_, rfl⟩
      go_wp2_with fail
      rw [show (at' : Int) + 4 * (k : Int) = (p : Int) from by omega]
      have i0 := index_str s p p rfl (by omega)
      have i1 := index_str s (p + 1) ((p : Int) + 1) (by omega) (by omega)
      have i2 := index_str s (p + 2) ((p : Int) + 2) (by omega) (by omega)
      have i3 := index_str s (p + 3) ((p : Int) + 3) (by omega) (by omega)
      have hX : numF [s.data.toList.getD p 0, s.data.toList.getD (p + 1) 0, s.data.toList.getD (p + 2) 0, s.data.toList.getD (p + 3) 0] = wordF B k := by
        rw [hp, ← HB.out]; exact word_at s.data.toList at' k hlt (by simpa using hat)
      generalize s.data.toList.getD p 0 = x0 at i0 hX
      generalize s.data.toList.getD (p + 1) 0 = x1 at i1 hX
      generalize s.data.toList.getD (p + 2) 0 = x2 at i2 hX
      generalize s.data.toList.getD (p + 3) 0 = x3 at i3 hX
      have X : Hid (numF [x0, x1, x2, x3] = wordF B k) := hX
      clear hX
      have v0 := x0.toNat_lt
      have v1 := x1.toNat_lt
      have v2 := x2.toNat_lt
      have v3 := x3.toNat_lt
      obtain ⟨N, hN⟩ : ∃ N, N = (M.alloc (.cells (cellsI (schedC B k)).toArray 71)).drewN n := ⟨_, rfl⟩
      have f16 := I_cell hN hMs (schedI_some B k (by omega))
      have g16 := I_frozen hN hMs k
      rw [← hN]
      have HN : Hid (N = (M.alloc (.cells (cellsI (schedC B k)).toArray 71)).drewN n) := hN
      clear hN
      have b0 : (k : Int) < 64 := by omega
      have b1 : (0 : Int) ≤ (k : Int) := by omega
      have HP : Hid (p = at' + 4 * k) := hp
      have w1 := wrap_small ((p : Int) + 1) (by omega) (by omega)
      have w2 := wrap_small ((p : Int) + 2) (by omega) (by omega)
      have w3 := wrap_small ((p : Int) + 3) (by omega) (by omega)
      have u0 := wrap_small ((x0.toNat : Nat) : Int) (by omega) (by omega)
      have u1 := wrap_small ((x1.toNat : Nat) : Int) (by omega) (by omega)
      have u2 := wrap_small ((x2.toNat : Nat) : Int) (by omega) (by omega)
      have u3 := wrap_small ((x3.toNat : Nat) : Int) (by omega) (by omega)
      have t0 := wrap_small (((x0.toNat : Nat) : Int) * 16777216) (by omega) (by omega)
      have t1 := wrap_small (((x1.toNat : Nat) : Int) * 65536) (by omega) (by omega)
      have t2 := wrap_small (((x2.toNat : Nat) : Int) * 256) (by omega) (by omega)
      clear hp
      refine wp_region_any (by kernel_rfl) ?_
      change wpAny _ _ _ _ _ _ _ (World.drew N)
      refine wpAny_take (i := 0) (v := .int .i64 k) rfl (by kernel_rfl) (by kernel_rfl) (by kernel_rfl) (fun _ _ _ h => h) (Or.inl ⟨by rfl, by intro w; go_simp⟩) ?_
      refine wpAny_take (i := 1) (v := .string s) rfl (by kernel_rfl) (by kernel_rfl) (by kernel_rfl) (fun _ _ _ h => h) (Or.inl ⟨by rfl, by intro w; go_simp⟩) ?_
      refine wpAny_take (i := 2) (v := .int .i64 p) rfl (by kernel_rfl) (by kernel_rfl) (by kernel_rfl) (fun _ _ _ h => h) (Or.inl ⟨by rfl, by intro w; go_simp⟩) ?_
      refine wpAny_take (i := 3) (v := .int .u8 ((x0.toNat : Nat) : Int)) rfl (by kernel_rfl) (by kernel_rfl) (by kernel_rfl) (fun _ _ _ h => h) (Or.inl ⟨by rfl, by intro w; go_simp⟩) ?_

      refine wpAny_take (i := 4) (v := .int .i64 ((x0.toNat : Nat) : Int)) rfl (by kernel_rfl) (by kernel_rfl) (by kernel_rfl) (fun _ _ _ h => h) (Or.inl ⟨by rfl, by intro w; go_simp⟩) ?_
      refine wpAny_take (i := 5) (v := .int .i64 (((x0.toNat : Nat) : Int) * 16777216)) rfl (by kernel_rfl) (by kernel_rfl) (by kernel_rfl) (fun _ _ _ h => h) (Or.inl ⟨by rfl, by intro w; go_simp⟩) ?_
      refine wpAny_take (i := 6) (v := .string s) rfl (by kernel_rfl) (by kernel_rfl) (by kernel_rfl) (fun _ _ _ h => h) (Or.inl ⟨by rfl, by intro w; go_simp⟩) ?_
      refine wpAny_take (i := 7) (v := .int .i64 p) rfl (by kernel_rfl) (by kernel_rfl) (by kernel_rfl) (fun _ _ _ h => h) (Or.inl ⟨by rfl, by intro w; go_simp⟩) ?_
      refine wpAny_take (i := 8) (v := .int .i64 ((p : Int) + 1)) rfl (by kernel_rfl) (by kernel_rfl) (by kernel_rfl) (fun _ _ _ h => h) (Or.inl ⟨by rfl, by intro w; go_simp⟩) ?_
      refine wpAny_take (i := 9) (v := .int .u8 ((x1.toNat : Nat) : Int)) rfl (by kernel_rfl) (by kernel_rfl) (by kernel_rfl) (fun _ _ _ h => h) (Or.inl ⟨by rfl, by intro w; go_simp⟩) ?_
      refine wpAny_take (i := 10) (v := .int .i64 ((x1.toNat : Nat) : Int)) rfl (by kernel_rfl) (by kernel_rfl) (by kernel_rfl) (fun _ _ _ h => h) (Or.inl ⟨by rfl, by intro w; go_simp⟩) ?_
      refine wpAny_take (i := 11) (v := .int .i64 (((x1.toNat : Nat) : Int) * 65536)) rfl (by kernel_rfl) (by kernel_rfl) (by kernel_rfl) (fun _ _ _ h => h) (Or.inl ⟨by rfl, by intro w; go_simp⟩) ?_
      refine wpAny_take (i := 12) (v := .int .i64 (bits .or .i64 (((x0.toNat : Nat) : Int) * 16777216) (((x1.toNat : Nat) : Int) * 65536))) rfl (by kernel_rfl) (by kernel_rfl) (by kernel_rfl) (fun _ _ _ h => h) (Or.inl ⟨by rfl, by intro w; go_simp⟩) ?_
      refine wpAny_take (i := 13) (v := .string s) rfl (by kernel_rfl) (by kernel_rfl) (by kernel_rfl) (fun _ _ _ h => h) (Or.inl ⟨by rfl, by intro w; go_simp⟩) ?_
      refine wpAny_take (i := 14) (v := .int .i64 p) rfl (by kernel_rfl) (by kernel_rfl) (by kernel_rfl) (fun _ _ _ h => h) (Or.inl ⟨by rfl, by intro w; go_simp⟩) ?_
      refine wpAny_take (i := 15) (v := .int .i64 ((p : Int) + 2)) rfl (by kernel_rfl) (by kernel_rfl) (by kernel_rfl) (fun _ _ _ h => h) (Or.inl ⟨by rfl, by intro w; go_simp⟩) ?_
      refine wpAny_take (i := 16) (v := .int .u8 ((x2.toNat : Nat) : Int)) rfl (by kernel_rfl) (by kernel_rfl) (by kernel_rfl) (fun _ _ _ h => h) (Or.inl ⟨by rfl, by intro w; go_simp⟩) ?_
      refine wpAny_take (i := 17) (v := .int .i64 ((x2.toNat : Nat) : Int)) rfl (by kernel_rfl) (by kernel_rfl) (by kernel_rfl) (fun _ _ _ h => h) (Or.inl ⟨by rfl, by intro w; go_simp⟩) ?_
      refine wpAny_take (i := 18) (v := .int .i64 (((x2.toNat : Nat) : Int) * 256)) rfl (by kernel_rfl) (by kernel_rfl) (by kernel_rfl) (fun _ _ _ h => h) (Or.inl ⟨by rfl, by intro w; go_simp⟩) ?_
      refine wpAny_take (i := 19) (v := .int .i64 (bits .or .i64 (bits .or .i64 (((x0.toNat : Nat) : Int) * 16777216) (((x1.toNat : Nat) : Int) * 65536)) (((x2.toNat : Nat) : Int) * 256))) rfl (by kernel_rfl) (by kernel_rfl) (by kernel_rfl) (fun _ _ _ h => h) (Or.inl ⟨by rfl, by intro w; go_simp⟩) ?_
      refine wpAny_take (i := 20) (v := .string s) rfl (by kernel_rfl) (by kernel_rfl) (by kernel_rfl) (fun _ _ _ h => h) (Or.inl ⟨by rfl, by intro w; go_simp⟩) ?_
      refine wpAny_take (i := 21) (v := .int .i64 p) rfl (by kernel_rfl) (by kernel_rfl) (by kernel_rfl) (fun _ _ _ h => h) (Or.inl ⟨by rfl, by intro w; go_simp⟩) ?_
      refine wpAny_take (i := 22) (v := .int .i64 ((p : Int) + 3)) rfl (by kernel_rfl) (by kernel_rfl) (by kernel_rfl) (fun _ _ _ h => h) (Or.inl ⟨by rfl, by intro w; go_simp⟩) ?_
      refine wpAny_take (i := 23) (v := .int .u8 ((x3.toNat : Nat) : Int)) rfl (by kernel_rfl) (by kernel_rfl) (by kernel_rfl) (fun _ _ _ h => h) (Or.inl ⟨by rfl, by intro w; go_simp⟩) ?_
      refine wpAny_take (i := 24) (v := .int .i64 ((x3.toNat : Nat) : Int)) rfl (by kernel_rfl) (by kernel_rfl) (by kernel_rfl) (fun _ _ _ h => h) (Or.inl ⟨by rfl, by intro w; go_simp⟩) ?_
      refine wpAny_take (i := 25) (v := .int .i64 (bits .or .i64 (bits .or .i64 (bits .or .i64 (((x0.toNat : Nat) : Int) * 16777216) (((x1.toNat : Nat) : Int) * 65536)) (((x2.toNat : Nat) : Int) * 256)) ((x3.toNat : Nat) : Int))) rfl (by kernel_rfl) (by kernel_rfl) (by kernel_rfl) (fun _ _ _ h => h) (Or.inl ⟨by rfl, by intro w; go_simp⟩) ?_
      refine wpAny_take (i := 26) (v := .pointer (some ⟨w.heap.size + 1 + 1 + 1, k, none⟩)) rfl (by kernel_rfl) (by kernel_rfl) (by kernel_rfl) (fun _ _ _ h => h) (Or.inl ⟨by rfl, by intro w; go_simp⟩) ?_
      refine wpAny_all (rs := [27]) (by kernel_rfl) (List.cons_ne_nil _ _) (all_one (wpOp_store_cell (by rfl) (by rfl) 3 (.tmp 65) (.tmp 64) (by rfl) (w.heap.size + 1 + 1 + 1) k (.int .i64 (bits .or .i64 (bits .or .i64 (bits .or .i64 (((x0.toNat : Nat) : Int) * 16777216) (((x1.toNat : Nat) : Int) * 65536)) (((x2.toNat : Nat) : Int) * 256)) ((x3.toNat : Nat) : Int))) ?e4 ?e5 rfl rfl ?e6 ?e7 (by kernel_rfl) (by rfl) ?e8))
      case e4 => go_simp
      case e5 => go_simp
      case e6 => rw [World.cell?_drew, f16]; rfl
      case e7 => rw [World.frozen?_drew]; exact g16
      case e8 =>
        refine wpAny_done (by kernel_rfl) ?_ _
        clear i0 i1 i2 i3 w1 w2 w3 u0 u1 u2 u3 t0 t1 t2 f16 g16
        go_wp2_with fail
        go_roundw
        case rel => exact ⟨k + 1, n + 1, by omega, by go_num, (I_set HN.out hMs 1 _ _).trans (by rw [schedI_set B k (by omega) _ (by rw [if_pos hlt, word_w]; exact X.out)])⟩
        case measure => simp [intOf]; omega
    · have hk16 : k = 16 := by omega
      subst hk16
      clear hlt hk
      go_wp2
      go_loopw [12] (fun i wr => ∃ (k n : Nat), 16 ≤ k ∧ k ≤ 64 ∧ i = .int .i64 k ∧
        wr = (M.alloc (.cells (cellsI (schedC B k)).toArray 71)).drewN n) (fun i _ => 64 - (intOf i).toNat)
      case atStart => exact ⟨16, n, by omega, by omega, rfl, rfl⟩
      case round =>
        clear n
        obtain ⟨k, n, hk16, hk, rfl, rfl⟩ := hrel
        by_cases hlt : k < 64
        · obtain ⟨m, rfl⟩ : ∃ m, k = m + 16 := ⟨k - 16, by omega⟩
          rw [show ((m + 16 : Nat) : Int) = (m : Int) + 16 from by omega]
          obtain ⟨N, hN⟩ : ∃ N, N = (M.alloc (.cells (cellsI (schedC B (m + 16))).toArray 71)).drewN n := ⟨_, rfl⟩
          have f0 := I_cell hN hMs (schedI_get B (m + 16) m (by omega))
          have f1 := I_cell hN hMs (schedI_get B (m + 16) (m + 1) (by omega))
          have f9 := I_cell hN hMs (schedI_get B (m + 16) (m + 9) (by omega))
          have f14 := I_cell hN hMs (schedI_get B (m + 16) (m + 14) (by omega))
          have f16 := I_cell hN hMs (schedI_some B (m + 16) (by omega))
          have g16 := I_frozen hN hMs (m + 16)
          have d0 := wds_sched B (m + 16) m
          have d1 := wds_sched B (m + 16) (m + 1)
          have d9 := wds_sched B (m + 16) (m + 9)
          have d14 := wds_sched B (m + 16) (m + 14)
          have hX : nextF (schedTo B (m + 16)) (m + 16) = _ := nextF_at _ _
          generalize (schedTo B (m + 16)).getD m 0 = x0 at f0 d0 hX
          generalize (schedTo B (m + 16)).getD (m + 1) 0 = x1 at f1 d1 hX
          generalize (schedTo B (m + 16)).getD (m + 9) 0 = x9 at f9 d9 hX
          generalize (schedTo B (m + 16)).getD (m + 14) 0 = x14 at f14 d14 hX
          have X : Hid _ := hX
          rw [← hN]
          have HN : Hid (N = (M.alloc (.cells (cellsI (schedC B (m + 16))).toArray 71)).drewN n) := hN
          clear hN hX
          have b0 : (m : Int) < 64 := by omega
          have b1 : (m : Int) + 1 < 64 := by omega
          have b9 : (m : Int) + 9 < 64 := by omega
          have b14 : (m : Int) + 14 < 64 := by omega
          have b16 : (m : Int) + 16 < 64 := by omega
          have z0 : 0 ≤ (m : Int) := by omega
          have p1 : 0 ≤ (m : Int) + 1 := by omega
          have p9 : 0 ≤ (m : Int) + 9 := by omega
          have p14 : 0 ≤ (m : Int) + 14 := by omega
          have p16 : 0 ≤ (m : Int) + 16 := by omega
          have t1 : ((m : Int) + 1).toNat = m + 1 := by omega
          have t9 : ((m : Int) + 9).toNat = m + 9 := by omega
          have t14 : ((m : Int) + 14).toNat = m + 14 := by omega
          have t16 : ((m : Int) + 16).toNat = m + 16 := by omega
          have D1 : Hid (Wd x1) := d1
          have D14 : Hid (Wd x14) := d14
          go_wp2_with fail
          refine (refMixed_any x1 7 18 3 _ D1.out (by omega) (by omega) (by omega) (by omega) (by omega)).mono ?_
          rintro e w1 ⟨rfl, n1, rfl⟩
          go_wp2_with fail
          refine (refMixed_any x14 17 19 10 _ D14.out (by omega) (by omega) (by omega) (by omega) (by omega)).mono ?_
          rintro e w1 ⟨rfl, n2, rfl⟩
          have e1 := shifted_wd x1 7 18 3
          have e14 := shifted_wd x14 17 19 10
          have hX := X.out
          generalize shiftedF x1 7 18 3 = q1 at e1 hX
          generalize shiftedF x14 17 19 10 = q2 at e14 hX
          have X2 : Hid _ := hX
          clear hX X f1 f14 b1 b14 p1 p14 t1 t14 d1 d14 D1 D14
          obtain ⟨d0a, d0b⟩ := d0
          obtain ⟨d9a, d9b⟩ := d9
          obtain ⟨e1a, e1b⟩ := e1
          obtain ⟨e2a, e2b⟩ := e14
          have v0 := wrap_small (m : Int) (by omega) (by omega)
          have v9 : IntKind.i64.wrap ((m : Int) + 16 - 7) = m + 9 := (wrap_small ((m : Int) + 16 - 7) (by omega) (by omega)).trans (by omega)
          have s1 := wrap_small (x0 + q1) (by omega) (by omega)
          have s2 := wrap_small (x0 + q1 + x9) (by omega) (by omega)
          have s3 := wrap_small (x0 + q1 + x9 + q2) (by omega) (by omega)
          have hV : Hid (bits .and .i64 (x0 + q1 + x9 + q2) 4294967295 = nextF (schedTo B (m + 16)) (m + 16)) := by
            show bits .and .i64 (x0 + q1 + x9 + q2) 4294967295 = nextF (schedTo B (m + 16)) (m + 16)
            rw [X2.out, mask_w (by omega) (by omega)]
            simp only [IntKind.wrap_u32]
            omega
          clear X2
          go_wp2_with fail
          go_region_held3 (fun w' => w'.cell? ⟨w.heap.size + 1 + 1 + 1, m, none⟩ = some (.int .i64 x0) ∧ w'.cell? ⟨w.heap.size + 1 + 1 + 1, m + 9, none⟩ = some (.int .i64 x9)) (first | go_keep | (refine ⟨?_, ?_⟩ <;> (rw [World.cell?_setCell_other _ _ _ _ (by simp)]; simp only [World.cell?_drewN, f0, f9]))) (fail)
          all_goals
            clear f0 f9 f16 g16 b0 b9 v0 v9 p9 p16 t9 t16 s1 s2 s3
            go_wp2
            go_roundw
            case rel => ((repeat apply Exists.intro); exact ⟨⟨m + 17, _, by omega, by omega, by go_num, (I_set HN.out hMs _ _ _).trans (by rw [schedI_set B (m + 16) (by omega) _ (by rw [if_neg (by omega)]; exact hV.out)])⟩, rfl⟩)
            case measure => simp [intOf]; omega
        · have hk64 : k = 64 := by omega
          subst hk64
          clear hlt hk hk16
          simp only [show ((64 : Nat) : Int) = 64 from rfl, show ((16 : Nat) : Int) = 16 from rfl]
          have hSl : (schedTo B 64).length = 64 := schedTo_length B 64
          have hSw : Wds (schedTo B 64) := wds_sched B 64
          rw [schedC_full]
          generalize hS : schedTo B 64 = S at *
          have HS : Hid (schedTo B 64 = S) := hS
          clear hS
          refine wp_gen (fun N => RndW w N H KS S kb cap) (rndW_make HM.out _ _ _) ?_
          intro N hN
          have HN : Hid (RndW w N H KS S kb cap) := hN
          clear hN n

          obtain ⟨s0, hs0⟩ : ∃ s, s = St.of H := ⟨_, rfl⟩
          have x0 : N.cell? ⟨w.heap.size + 1, 0, none⟩ = some (.int .i64 s0.a) := by rw [hs0]; exact rangeI0 HN.out.hrow 0 (by omega)
          have x1 : N.cell? ⟨w.heap.size + 1, 1, none⟩ = some (.int .i64 s0.b) := by rw [hs0]; exact rangeI0 HN.out.hrow 1 (by omega)
          have x2 : N.cell? ⟨w.heap.size + 1, 2, none⟩ = some (.int .i64 s0.c) := by rw [hs0]; exact rangeI0 HN.out.hrow 2 (by omega)
          have x3 : N.cell? ⟨w.heap.size + 1, 3, none⟩ = some (.int .i64 s0.d) := by rw [hs0]; exact rangeI0 HN.out.hrow 3 (by omega)
          have x4 : N.cell? ⟨w.heap.size + 1, 4, none⟩ = some (.int .i64 s0.e) := by rw [hs0]; exact rangeI0 HN.out.hrow 4 (by omega)
          have x5 : N.cell? ⟨w.heap.size + 1, 5, none⟩ = some (.int .i64 s0.f) := by rw [hs0]; exact rangeI0 HN.out.hrow 5 (by omega)
          have x6 : N.cell? ⟨w.heap.size + 1, 6, none⟩ = some (.int .i64 s0.g) := by rw [hs0]; exact rangeI0 HN.out.hrow 6 (by omega)
          have x7 : N.cell? ⟨w.heap.size + 1, 7, none⟩ = some (.int .i64 s0.h) := by rw [hs0]; exact rangeI0 HN.out.hrow 7 (by omega)
          have HH : Hid (s0 = St.of H) := hs0
          have HhH : Hid (H.length = 8) := hH
          have HhS : Hid (S.length = 64) := hSl
          have HKl : Hid (KS.length = 64) := hKl
          clear hs0 hH hSl hKl
          go_wp2
          clear x0 x1 x2 x3 x4 x5 x6 x7
          go_loopw [15, 16, 17, 18, 19, 20, 21, 22, 23] (fun a b c d e f g h i wr => ∃ (k n : Nat), k ≤ 64 ∧ i = .int .i64 k ∧ a = .int .i64 (rndsTo KS S H k).a ∧ b = .int .i64 (rndsTo KS S H k).b ∧ c = .int .i64 (rndsTo KS S H k).c ∧ d = .int .i64 (rndsTo KS S H k).d ∧
              e = .int .i64 (rndsTo KS S H k).e ∧ f = .int .i64 (rndsTo KS S H k).f ∧ g = .int .i64 (rndsTo KS S H k).g ∧ h = .int .i64 (rndsTo KS S H k).h ∧ wr = N.drewN n) (fun _ _ _ _ _ _ _ _ i _ => 64 - (intOf i).toNat)
          case atStart => exact ⟨0, 0, by omega, rfl, by rw [HH.out]; rfl, by rw [HH.out]; rfl, by rw [HH.out]; rfl, by rw [HH.out]; rfl, by rw [HH.out]; rfl, by rw [HH.out]; rfl, by rw [HH.out]; rfl, by rw [HH.out]; rfl, rfl⟩
          case round =>
            obtain ⟨k, n, hk, rfl, rfl, rfl, rfl, rfl, rfl, rfl, rfl, rfl, rfl⟩ := hrel
            by_cases hlt : k < 64
            · have hsw := wd_rnds KS S hHw k
              generalize hs' : rndsTo KS S H k = s' at hsw ⊢
              have HR : Hid (rndsTo KS S H k = s') := hs'
              have HW : Hid s'.Wd := hsw
              have HhH : Hid (Wds H) := hHw
              have HhK : Hid (Wds KS) := hKw
              have HhW : Hid (Wds S) := hSw
              clear hs' hsw hHw hKw hSw hMs HM HK hat hsz
              obtain ⟨sa, sb, sc, sd, se, sf, sg, sh⟩ := s'
              dsimp only
              have hlt' : (k : Int) < 64 := by omega
              have hk0 : (0 : Int) ≤ (k : Int) := by omega
              have ya : N.cell? ⟨w.heap.size, 1, none⟩ = some (.slice (some ⟨kb, 0, none⟩) 64 cap) := HN.out.crow
              have yk : N.cell? ⟨kb, k, none⟩ = some (.int .i64 (KS.getD k 0)) := rangeI0 HN.out.krow k (by rw [HKl.out]; omega)
              have yw : N.cell? ⟨w.heap.size + 1 + 1 + 1, k, none⟩ = some (.int .i64 (S.getD k 0)) := rangeI0 HN.out.srow k (by rw [HhS.out]; omega)
              have wk := HhK.out k
              have ww := HhW.out k
              generalize hkk : KS.getD k 0 = kk at yk wk
              generalize hww : S.getD k 0 = sw at yw ww
              have HKK : Hid (KS.getD k 0 = kk) := hkk
              have HWW : Hid (S.getD k 0 = sw) := hww
              clear hkk hww
              go_wp2_with fail
              refine (refTurns_any se 6 11 25 _ HW.out.e (by omega) (by omega) (by omega) (by omega) (by omega) (by omega)).mono ?_
              rintro e w1 ⟨rfl, n1, rfl⟩
              have tw := turned_wd se 6 11 25
              generalize htp : turnedF se ((6 : Nat) : Int) ((11 : Nat) : Int) ((25 : Nat) : Int) = tp
              have htp2 : turnedF se 6 11 25 = tp := htp
              rw [htp2] at tw
              have HTP : Hid (turnedF se 6 11 25 = tp) := htp2
              clear htp htp2
              have c0 := wrap_small (4294967295 - se) (by have := HW.out.e.1; have := HW.out.e.2; simp only at *; omega) (by have := HW.out.e.1; have := HW.out.e.2; simp only at *; omega)
              go_wp2_with fail
              have hch : bits .xor .i64 (bits .and .i64 se sf) (bits .and .i64 (4294967295 - se) sg) = bits .xor .u32 (bits .and .u32 se sf) (bits .and .u32 (4294967295 - se) sg) := by
                rw [and_w HW.out.e HW.out.f, and_w (not_wd HW.out.e) HW.out.g, xor_w (u32_bd _ _ _) (u32_bd _ _ _)]
              rw [hch]
              have cw := u32_bd .xor (bits .and .u32 se sf) (bits .and .u32 (4294967295 - se) sg)
              generalize hcc : bits .xor .u32 (bits .and .u32 se sf) (bits .and .u32 (4294967295 - se) sg) = ch at cw ⊢
              have HCH : Hid (bits .xor .u32 (bits .and .u32 se sf) (bits .and .u32 (4294967295 - se) sg) = ch) := hcc
              clear hcc hch c0
              obtain ⟨hh0, hh1⟩ : 0 ≤ sh ∧ sh < 4294967296 := HW.out.h
              obtain ⟨tw0, tw1⟩ := tw
              obtain ⟨cw0, cw1⟩ := cw
              obtain ⟨wk0, wk1⟩ := wk
              obtain ⟨ww0, ww1⟩ := ww
              have s1 := wrap_small (sh + tp) (by omega) (by omega)
              have s2 := wrap_small (sh + tp + ch) (by omega) (by omega)
              have s3 := wrap_small (sh + tp + ch + kk) (by omega) (by omega)
              have s4 := wrap_small (sh + tp + ch + kk + sw) (by omega) (by omega)
              go_quiet (fail)
              rw [mask_w (x := sh + tp + ch + kk + sw) (by omega) (by omega)]
              have HT : Hid ((St.mk sa sb sc sd se sf sg sh).t kk sw = (sh + tp + ch + kk + sw) % 4294967296) := by
                show (St.mk sa sb sc sd se sf sg sh).t kk sw = _
                rw [← HTP.out, ← HCH.out, ← ref_t _ HW.out]
              have tt0 : 0 ≤ (sh + tp + ch + kk + sw) % 4294967296 := by omega
              have tt1 : (sh + tp + ch + kk + sw) % 4294967296 < 4294967296 := by omega
              generalize (sh + tp + ch + kk + sw) % 4294967296 = tt at HT tt0 tt1 ⊢
              clear s1 s2 s3 s4 ya yk yw hh0 hh1 wk0 wk1 ww0 ww1 cw0 cw1 tw0 tw1
              go_wp2_with fail
              refine (refTurns_any sa 2 13 22 _ HW.out.a (by omega) (by omega) (by omega) (by omega) (by omega) (by omega)).mono ?_
              rintro e w1 ⟨rfl, n2, rfl⟩
              have tw := turned_wd sa 2 13 22
              generalize htp : turnedF sa ((2 : Nat) : Int) ((13 : Nat) : Int) ((22 : Nat) : Int) = tq
              have htp2 : turnedF sa 2 13 22 = tq := htp
              rw [htp2] at tw
              have HTQ : Hid (turnedF sa 2 13 22 = tq) := htp2
              clear htp htp2
              obtain ⟨tw0, tw1⟩ := tw
              obtain ⟨hd0, hd1⟩ : 0 ≤ sd ∧ sd < 4294967296 := HW.out.d
              have HMO : Hid (bits .xor .i64 (bits .xor .i64 (bits .and .i64 sa sb) (bits .and .i64 sa sc)) (bits .and .i64 sb sc) = bits .xor .u32 (bits .xor .u32 (bits .and .u32 sa sb) (bits .and .u32 sa sc)) (bits .and .u32 sb sc)) := by
                show bits .xor .i64 _ _ = _
                rw [and_w HW.out.a HW.out.b, and_w HW.out.a HW.out.c, and_w HW.out.b HW.out.c, xor_w (u32_bd _ _ _) (u32_bd _ _ _), xor_w (u32_bd _ _ _) (u32_bd _ _ _)]
              obtain ⟨mo0, mo1⟩ : Wd (bits .xor .i64 (bits .xor .i64 (bits .and .i64 sa sb) (bits .and .i64 sa sc)) (bits .and .i64 sb sc)) := by rw [HMO.out]; exact u32_bd _ _ _
              have s1 := wrap_small (sd + tt) (by omega) (by omega)
              have s2 := wrap_small (tt + tq) (by omega) (by omega)
              have s3 := wrap_small (tt + tq + bits .xor .i64 (bits .xor .i64 (bits .and .i64 sa sb) (bits .and .i64 sa sc)) (bits .and .i64 sb sc)) (by omega) (by omega)
              have HE : Hid (bits .and .i64 (sd + tt) 4294967295 = ((St.mk sa sb sc sd se sf sg sh).next kk sw).e) := by
                show bits .and .i64 (sd + tt) 4294967295 = IntKind.u32.wrap (sd + (St.mk sa sb sc sd se sf sg sh).t kk sw)
                rw [HT.out, mask_w (by omega) (by omega), IntKind.wrap_u32]
              have HA : Hid (bits .and .i64 (tt + tq + bits .xor .i64 (bits .xor .i64 (bits .and .i64 sa sb) (bits .and .i64 sa sc)) (bits .and .i64 sb sc)) 4294967295 = ((St.mk sa sb sc sd se sf sg sh).next kk sw).a) := by
                show bits .and .i64 _ 4294967295 = IntKind.u32.wrap ((St.mk sa sb sc sd se sf sg sh).t kk sw + (St.mk sa sb sc sd se sf sg sh).u)
                rw [mask_w (by omega) (by omega), HMO.out, HT.out, St.u, ← HTQ.out, IntKind.wrap_u32, IntKind.wrap_u32]
                dsimp only
                omega
              go_wp2_with fail
              go_roundw
              case rel => exact ⟨k + 1, _, by omega, by go_num, by rw [rndsTo, HR.out, HKK.out, HWW.out]; exact congrArg (Value.int .i64) HA.out, by rw [rndsTo, HR.out, HKK.out, HWW.out]; rfl, by rw [rndsTo, HR.out, HKK.out, HWW.out]; rfl, by rw [rndsTo, HR.out, HKK.out, HWW.out]; rfl, by rw [rndsTo, HR.out, HKK.out, HWW.out]; exact congrArg (Value.int .i64) HE.out, by rw [rndsTo, HR.out, HKK.out, HWW.out]; rfl, by rw [rndsTo, HR.out, HKK.out, HWW.out]; rfl, by rw [rndsTo, HR.out, HKK.out, HWW.out]; rfl, rfl⟩
              case measure => simp [intOf]; omega
            · have hk64 : k = 64 := by omega
              subst hk64
              clear hlt hk
              simp only [show ((64 : Nat) : Int) = 64 from rfl]
              have hgw := wd_rnds KS S hHw 64
              generalize hG : rndsTo KS S H 64 = G at hgw ⊢
              have HG : Hid (rndsTo KS S H 64 = G) := hG
              have HGw : Hid G.Wd := hgw
              clear hG hgw
              have hNs : N.heap.size = w.heap.size + 1 + 1 + 1 + 1 := HN.out.size
              have HhH' : Hid (Wds H) := hHw
              clear hHw hKw hSw hMs HM HK hat hsz
              go_wp2_with (first
                | refine wpList_store_mid rfl 49 (.tmp 29) (.tmp 179) rfl (w.heap.size + 1 + 1 + 1 + 1) 0 (cellsI G.list).toArray rfl rfl ?th (by kernel_rfl) (all_oneCell_toArray (cellsI_one _)) ?_)
              case th => exact there_new _ _ _ _ _ hNs.symm rfl
              have hml : ∀ k, (mixR H G.list k).length = 8 := fun k => mixR_length _ _ _
              go_loopw [30] (fun i wr => ∃ (k : Nat), k ≤ 8 ∧ i = .int .i64 k ∧ Below w.heap.size w wr ∧ wr.rangeAt (w.heap.size + 1) 0 (cellsI H) ∧ wr.rangeAt (w.heap.size + 1 + 1 + 1 + 1) 0 (cellsI (mixR H G.list k)) ∧ wr.there (w.heap.size + 1 + 1 + 1 + 1) 0 8 ∧ wr.there (w.heap.size + 1 + 1) 0 8) (fun i _ => 8 - (intOf i).toNat)
              case atStart =>
                have hth : ((N.drewN n).alloc (.cells (List.replicate 8 (Value.int .i64 0)).toArray 49)).there (w.heap.size + 1 + 1 + 1 + 1) 0 8 := there_new _ _ _ _ _ hNs.symm rfl
                exact ⟨0, by omega, rfl, below_setCells (by omega) _ _ _ _ ((below_drewN HN.out.below n).alloc (by show w.heap.size ≤ N.heap.size; omega) _),
                  World.rangeAt_setCells_apart (World.rangeAt_alloc (range_drewN HN.out.hrow) _) _ _ _ (Or.inl (by omega)),
                  by rw [mixR_start]; exact World.rangeAt_setCells_same _ _ _ _ hth, World.there_setCells hth _ _ _, World.there_setCells (World.there_alloc (there_drewN HN.out.res) _) _ _ _⟩
              case round =>
                obtain ⟨k, hk, rfl, hb, hr, hx, ht, hres⟩ := hrel
                by_cases hlt : k < 8
                · have hlt' : (k : Int) < 8 := by omega
                  have hk0 : (0 : Int) ≤ (k : Int) := by omega
                  have y0 : wr.cell? ⟨w.heap.size + 1, k, none⟩ = some (.int .i64 (H.getD k 0)) := rangeI0 hr k (by rw [HhH.out]; exact hlt)
                  have y1 : wr.cell? ⟨w.heap.size + 1 + 1 + 1 + 1, k, none⟩ = some (.int .i64 (G.list.getD k 0)) := by
                    have := rangeI0 hx k (by rw [hml]; exact hlt)
                    rwa [mixR_get _ _ _ hlt] at this
                  have yf : wr.frozen? ⟨w.heap.size + 1 + 1 + 1 + 1, k, none⟩ = false := by have := (ht k hlt).2; rwa [Nat.zero_add] at this
                  obtain ⟨a0, a1⟩ := HhH'.out k
                  obtain ⟨b0, b1⟩ := wd_list HGw.out k
                  have hset := mixR_set H G.list k
                  generalize hxa : H.getD k 0 = xa at y0 a0 a1 hset
                  generalize hxb : G.list.getD k 0 = xb at y1 b0 b1 hset
                  have Hset : Hid _ := hset
                  have s1 := wrap_small (xa + xb) (by omega) (by omega)
                  have HV : Hid (bits .and .i64 (xa + xb) 4294967295 = IntKind.u32.wrap (xa + xb)) := by
                    show bits .and .i64 _ _ = _
                    rw [mask_w (by omega) (by omega), IntKind.wrap_u32]
                  have Hr : Hid _ := hr
                  have Hx : Hid _ := hx
                  have Ht : Hid _ := ht
                  have Hres : Hid _ := hres
                  have Hb : Hid _ := hb
                  clear hr hx ht hres hb hxa hxb hset hml
                  go_wp2_with fail
                  refine wp_region_any (by kernel_rfl) ?_
                  change wpAny _ _ _ _ _ _ _ (World.drew wr)
                  refine wpAny_take (i := 0) (v := .int .i64 k) rfl (by kernel_rfl) (by kernel_rfl) (by kernel_rfl) (fun _ _ _ h => h) (Or.inl ⟨by rfl, by intro w; go_simp⟩) ?_
                  refine wpAny_take (i := 1) (v := .int .i64 k) rfl (by kernel_rfl) (by kernel_rfl) (by kernel_rfl) (fun _ _ _ h => h) (Or.inl ⟨by rfl, by intro w; go_simp⟩) ?_
                  refine wpAny_take (i := 2) (v := .pointer (some ⟨w.heap.size + 1, k, none⟩)) rfl (by kernel_rfl) (by kernel_rfl) (by kernel_rfl) (fun _ _ _ h => h) (Or.inl ⟨by rfl, by intro w; go_simp⟩) ?_
                  refine wpAny_take (i := 4) (v := .int .i64 k) rfl (by kernel_rfl) (by kernel_rfl) (by kernel_rfl) (fun _ _ _ h => h) (Or.inl ⟨by rfl, by intro w; go_simp⟩) ?_
                  refine wpAny_take (i := 5) (v := .pointer (some ⟨w.heap.size + 1 + 1 + 1 + 1, k, none⟩)) rfl (by kernel_rfl) (by kernel_rfl) (by kernel_rfl) (fun _ _ _ h => h) (Or.inl ⟨by rfl, by intro w; go_simp⟩) ?_
                  refine wpAny_all (rs := [3, 6]) (by kernel_rfl) (List.cons_ne_nil _ _) (all_two (YieldsIf.wpOp (S := fun w' => w' = World.drew wr) (v := .int .i64 xa) rfl (.inl ⟨by rfl, fun w' hw' => by subst hw'; go_simp⟩) rfl ?A) (YieldsIf.wpOp (S := fun w' => w' = World.drew wr) (v := .int .i64 xb) rfl (.inl ⟨by rfl, fun w' hw' => by subst hw'; go_simp⟩) rfl ?B))
                  case A => refine wpAny_all (rs := [6]) (by kernel_rfl) (List.cons_ne_nil _ _) (all_one (YieldsIf.wpOp (S := fun w' => w' = World.drew wr) (v := .int .i64 xb) rfl (.inl ⟨by rfl, fun w' hw' => by subst hw'; go_simp⟩) rfl ?_))
                            refine wpAny_take (i := 7) (v := .int .i64 (xa + xb)) rfl (by kernel_rfl) (by kernel_rfl) (by kernel_rfl) (fun _ _ _ h => h) (Or.inl ⟨by rfl, by intro w; go_simp⟩) ?_
                            refine wpAny_take (i := 8) (v := .int .i64 (bits .and .i64 (xa + xb) 4294967295)) rfl (by kernel_rfl) (by kernel_rfl) (by kernel_rfl) (fun _ _ _ h => h) (Or.inl ⟨by rfl, by intro w; go_simp⟩) ?_
                            refine wpAny_take (i := 9) (v := .pointer (some ⟨w.heap.size + 1 + 1 + 1 + 1, k, none⟩)) rfl (by kernel_rfl) (by kernel_rfl) (by kernel_rfl) (fun _ _ _ h => h) (Or.inl ⟨by rfl, by intro w; go_simp⟩) ?_
                            refine wpAny_all (rs := [10]) (by kernel_rfl) (List.cons_ne_nil _ _) (all_one (wpOp_store_cell (by rfl) (by rfl) 3 (.tmp 193) (.tmp 192) (by rfl) (w.heap.size + 1 + 1 + 1 + 1) k (.int .i64 (bits .and .i64 (xa + xb) 4294967295)) ?e4 ?e5 rfl rfl ?e6 ?e7 (by kernel_rfl) (by rfl) ?e8))
                            case e4 => go_simp
                            case e5 => go_simp
                            case e6 => rw [World.cell?_drew, y1]; rfl
                            case e7 => rw [World.frozen?_drew]; exact yf
                            case e8 =>
                              refine wpAny_done (by kernel_rfl) ?_ _
                              clear y0 y1 yf s1
                              go_wp2_with fail
                              go_roundw
                              case rel => exact ⟨k + 1, by omega, by go_num, (Below.drew Hb.out).setCell (p := ⟨w.heap.size + 1 + 1 + 1 + 1, k, none⟩) (by show w.heap.size ≤ w.heap.size + 1 + 1 + 1 + 1; omega) _, World.rangeAt_setCells_apart (range_drew Hr.out) _ k [_] (Or.inl (by omega)), by rw [← Hset.out, HV.out]; exact range_set (range_drew Hx.out) _, there_set ((World.there_drew _ _ _ _).2 Ht.out) _ _ _, there_set ((World.there_drew _ _ _ _).2 Hres.out) _ _ _⟩
                              case measure => simp [intOf]; omega
                  case B => refine wpAny_all (rs := [3]) (by kernel_rfl) (List.cons_ne_nil _ _) (all_one (YieldsIf.wpOp (S := fun w' => w' = World.drew wr) (v := .int .i64 xa) rfl (.inl ⟨by rfl, fun w' hw' => by subst hw'; go_simp⟩) rfl ?_))
                            refine wpAny_take (i := 7) (v := .int .i64 (xa + xb)) rfl (by kernel_rfl) (by kernel_rfl) (by kernel_rfl) (fun _ _ _ h => h) (Or.inl ⟨by rfl, by intro w; go_simp⟩) ?_
                            refine wpAny_take (i := 8) (v := .int .i64 (bits .and .i64 (xa + xb) 4294967295)) rfl (by kernel_rfl) (by kernel_rfl) (by kernel_rfl) (fun _ _ _ h => h) (Or.inl ⟨by rfl, by intro w; go_simp⟩) ?_
                            refine wpAny_take (i := 9) (v := .pointer (some ⟨w.heap.size + 1 + 1 + 1 + 1, k, none⟩)) rfl (by kernel_rfl) (by kernel_rfl) (by kernel_rfl) (fun _ _ _ h => h) (Or.inl ⟨by rfl, by intro w; go_simp⟩) ?_
                            refine wpAny_all (rs := [10]) (by kernel_rfl) (List.cons_ne_nil _ _) (all_one (wpOp_store_cell (by rfl) (by rfl) 3 (.tmp 193) (.tmp 192) (by rfl) (w.heap.size + 1 + 1 + 1 + 1) k (.int .i64 (bits .and .i64 (xa + xb) 4294967295)) ?e4 ?e5 rfl rfl ?e6 ?e7 (by kernel_rfl) (by rfl) ?e8))
                            case e4 => go_simp
                            case e5 => go_simp
                            case e6 => rw [World.cell?_drew, y1]; rfl
                            case e7 => rw [World.frozen?_drew]; exact yf
                            case e8 =>
                              refine wpAny_done (by kernel_rfl) ?_ _
                              clear y0 y1 yf s1
                              go_wp2_with fail
                              go_roundw
                              case rel => exact ⟨k + 1, by omega, by go_num, (Below.drew Hb.out).setCell (p := ⟨w.heap.size + 1 + 1 + 1 + 1, k, none⟩) (by show w.heap.size ≤ w.heap.size + 1 + 1 + 1 + 1; omega) _, World.rangeAt_setCells_apart (range_drew Hr.out) _ k [_] (Or.inl (by omega)), by rw [← Hset.out, HV.out]; exact range_set (range_drew Hx.out) _, there_set ((World.there_drew _ _ _ _).2 Ht.out) _ _ _, there_set ((World.there_drew _ _ _ _).2 Hres.out) _ _ _⟩
                              case measure => simp [intOf]; omega
                · have hk8 : k = 8 := by omega
                  subst hk8
                  clear hlt hk
                  simp only [show ((8 : Nat) : Int) = 8 from rfl]
                  rw [mixR_end] at hx
                  have hml2 : (mixTo H G.list 8).length = 8 := mixTo_length _ _ _
                  have HL : Hid (mixF KS H B = mixTo H G.list 8) := by show mixF KS H B = _; rw [mixF, grownF, HS.out, HG.out]
                  generalize mixTo H G.list 8 = L at *
                  have hi49 : (Tryd.prog.info? 49).map (·.size) = some (cellsI L).length := by rw [cellsI_length, hml2]; kernel_rfl
                  have Hi49 : Hid ((Tryd.prog.info? 49).map (·.size) = some (cellsI L).toArray.size) := by show _ = some (cellsI L).toArray.size; rw [List.size_toArray]; exact hi49
                  have Hx : Hid (wr.rangeAt (w.heap.size + 1 + 1 + 1 + 1) 0 (cellsI L)) := hx
                  have Hres' : Hid (wr.there (w.heap.size + 1 + 1) 0 (cellsI L).length) := by show wr.there _ _ _; rw [cellsI_length, hml2]; exact hres
                  have Hres : Hid (wr.there (w.heap.size + 1 + 1) 0 (cellsI L).toArray.size) := by show wr.there _ _ (cellsI L).toArray.size; rw [List.size_toArray]; exact Hres'.out
                  clear hr hx ht hres hml
                  go_wp2_with (first
                    | refine wpList_load_mid rfl 49 (.tmp 29) rfl (w.heap.size + 1 + 1 + 1 + 1) 0 rfl (cellsI L) _ Hx.out Tryd.underlying49 rfl hi49 ?_
                    | refine wpList_store_mid rfl 49 (.tmp 8) (.tmp 194) rfl (w.heap.size + 1 + 1) 0 (cellsI L).toArray rfl rfl Hres.out Hi49.out (all_oneCell_toArray (cellsI_one L)) ?_)
                  exact bodyPost_ret (v := .agg (cellsI L).toArray) (results_cell_mid (p := 8) (ty := 49) (by kernel_rfl) _ _ (w.heap.size + 1 + 1) 0 (cellsI L) _ rfl (World.rangeAt_setCells_same _ _ _ _ Hres'.out) Tryd.underlying49 rfl hi49) rfl ⟨by rw [HB.out, HL.out], below_setCells (by omega) _ _ _ _ hb⟩

end Go.Proofs.YtkmoglhgkcnalaaDoor
