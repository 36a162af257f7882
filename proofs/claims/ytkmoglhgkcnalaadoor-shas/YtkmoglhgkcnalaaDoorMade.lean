/- The reference's words, made of roots: Made. -/
import Derived.Test.YtkmoglhgkcnalaaDoorMadeE
namespace Go.Proofs.YtkmoglhgkcnalaaDoor
open Go.RowKit

/-- the constants' box c in the making, from the world M0 on -/
structure Mad (M0 M : World) (c : Nat) (u0 u1 : Value) : Prop where
  grown : M0.grownBy M (some c)
  c0 : M.cell? ⟨c, 0, none⟩ = some u0
  c1 : M.cell? ⟨c, 1, none⟩ = some u1
  there : M.there c 0 2
theorem Mad.calm {M0 M M' : World} {c : Nat} {u0 u1 : Value} (h : Mad M0 M c u0 u1) (hc : c < M.heap.size) (hb : Below M.heap.size M M') : Mad M0 M' c u0 u1 :=
  ⟨grown_trans h.grown (grown_below hb), by rw [hb.cell (p := ⟨c, 0, none⟩) hc]; exact h.c0, by rw [hb.cell (p := ⟨c, 1, none⟩) hc]; exact h.c1, there_below hb hc h.there⟩
theorem OwnI.calm {B : Nat} {M M' : World} {v : Value} {l : List Int} (h : OwnI B M v l) (hb : Below M.heap.size M M') : OwnI B M' v l :=
  World.ownsRow.kept h (grown_below (row := none) hb) (by cases hv : v.ownBlock with
    | none => exact .inl rfl
    | some k => exact .inr (by simp))
/-- behind an append to the one or the other field, ahead of the store -/
theorem Mad.appended {M0 M M2 : World} {c : Nat} {u0 u1 v : Value} {l : List Int} {o : Obj} (h : Mad M0 M c u0 u1) (hc : c < M0.heap.size) (hv : OwnI M0.heap.size M v l) (hg : (M.alloc o).grownBy M2 v.ownBlock) : Mad M0 M2 c u0 u1 := by
  have hs := h.grown.size
  have hne : ∀ i, i < M0.heap.size → some i ≠ v.ownBlock := fun i hi e => by
    have := (World.ownsRow.lt hv i e.symm).1
    omega
  have hs2 := hg.size
  rw [World.size_alloc] at hs2
  have hbl : ∀ i, i < M0.heap.size → M2.heap[i]? = M.heap[i]? := fun i hi => by
    rw [hg.block i (by rw [World.size_alloc]; omega) (hne i hi)]
    exact Below.heap_alloc M o i (by omega)
  have hcell : ∀ j, M2.cell? ⟨c, j, none⟩ = M.cell? ⟨c, j, none⟩ := fun j => World.cell?_of_block (w := M) (hbl c hc)
  have hfr : ∀ j, M2.frozen? ⟨c, j, none⟩ = M.frozen? ⟨c, j, none⟩ := fun j => World.frozen?_of_block (w := M) (hbl c hc)
  exact ⟨⟨hg.os.trans h.grown.os, hg.tape.trans h.grown.tape, hg.output.trans h.grown.output, by omega, fun i hi hr => (hbl i hi).trans (h.grown.block i hi hr)⟩,
    by rw [hcell]; exact h.c0, by rw [hcell]; exact h.c1, fun j hj => by rw [hcell, hfr]; exact h.there j hj⟩
theorem Mad.put0 {M0 M : World} {c : Nat} {u0 u1 : Value} (h : Mad M0 M c u0 u1) (v : Value) : Mad M0 (M.setCell ⟨c, 0, none⟩ v) c v u1 :=
  ⟨grown_trans h.grown (grown_setCell _ _ _ _), World.cell?_setCell_same _ _ _ h.c0, by rw [World.cell?_setCell_other _ _ _ _ (by simp)]; exact h.c1, there_set h.there _ _ _⟩
theorem Mad.put1 {M0 M : World} {c : Nat} {u0 u1 : Value} (h : Mad M0 M c u0 u1) (v : Value) : Mad M0 (M.setCell ⟨c, 1, none⟩ v) c u0 v :=
  ⟨grown_trans h.grown (grown_setCell _ _ _ _), by rw [World.cell?_setCell_other _ _ _ _ (by simp)]; exact h.c0, World.cell?_setCell_same _ _ _ h.c1, there_set h.there _ _ _⟩
theorem OwnI.put {B : Nat} {M : World} {v : Value} {l : List Int} {c j : Nat} (h : OwnI B M v l) (hc : c < B) (u : Value) : OwnI B (M.setCell ⟨c, j, none⟩ u) v l :=
  World.ownsRow.kept h (grown_setCell _ _ _ _) (by cases hv : v.ownBlock with
    | none => exact .inl rfl
    | some k => exact .inr (by intro e; injection e with e; have := (World.ownsRow.lt h k hv).1; omega))

set_option maxRecDepth 100000 in
set_option maxHeartbeats 1000000 in
theorem made_any (w : World) :
    Calls Tryd.prog 9 #[] w fun e w' => ∃ hb ch kb ck, e = .returned (.agg #[.slice (some ⟨hb, 0, none⟩) 8 ch, .slice (some ⟨kb, 0, none⟩) 64 ck]) ∧ Below w.heap.size w w' ∧
      w'.rangeAt hb 0 (cellsI H0) ∧ hb < w'.heap.size ∧ w'.rangeAt kb 0 (cellsI KSc) ∧ kb < w'.heap.size ∧ w.heap.size ≤ hb ∧ w.heap.size ≤ kb := by
  obtain ⟨i0, hi, hz0, hz1, hz2⟩ := info_parts Tryd.infoI
  go_enter Tryd.func9, Tryd.ntmps9
  go_wp2_with fail
  refine (primes_any _).mono ?_
  rintro e w2 ⟨v2, rfl, hown2, hb2⟩
  obtain ⟨g, capP, rfl, hg1, hg2, hprow, hth2⟩ := hown2.row (by rw [pl_312]; omega)
  have hs2 := hb2.size
  simp only [World.size_alloc] at hs2 hg1
  have HM2 : Hid (Mad w2 w2 (w.heap.size + 1) (.slice none 0 0) (.slice none 0 0)) :=
    ⟨World.grownBy.refl _ _, by rw [hb2.cell (p := ⟨w.heap.size + 1, 0, none⟩) (by simp), World.cell?_alloc_at _ _ _ _ (by simp)]; rfl, by rw [hb2.cell (p := ⟨w.heap.size + 1, 1, none⟩) (by simp), World.cell?_alloc_at _ _ _ _ (by simp)]; rfl, there_below hb2 (by simp) (there_new _ _ _ _ _ (by simp) rfl)⟩
  have HR2 : Hid (w2.there w.heap.size 0 2) := there_below hb2 (by simp only [World.size_alloc]; omega) (World.there_alloc (there_new _ _ _ _ _ rfl rfl) _)
  have HB2 : Hid (Below w.heap.size w w2) := (((Below.refl _ _).alloc (Nat.le_refl _) _).alloc (by simp) _).trans (hb2.mono (by simp only [World.size_alloc]; omega))
  have HP2 : Hid (w2.rangeAt g 0 (cellsI (pl 312))) := hprow
  have hgc : w.heap.size + 1 < g := by omega
  clear hown2 hb2 hprow hth2 hg1
  rw [pl_312]
  go_wp2_with fail
  go_loopw [3] (fun x wr => ∃ (i : Nat) (u : Value), i ≤ 8 ∧ x = .int .i64 i ∧ Mad w2 wr (w.heap.size + 1) u (.slice none 0 0) ∧ OwnI w2.heap.size wr u (H0.take i)) (fun x _ => 8 - (intOf x).toNat)
  case atStart => exact ⟨0, _, by omega, rfl, HM2.out, World.ownsRow_nil _ _ _ _⟩
  case round =>
    clear HM2
    obtain ⟨i, u, hi8, rfl, hM, hown⟩ := hrel
    have hsz := hM.grown.size
    by_cases hlt : i < 8
    · have hlt' : (i : Int) < 8 := by omega
      have hi64 : (i : Int) < 64 := by omega
      have cp : wr.cell? ⟨g, i, none⟩ = some (.int .i64 ((pl 312).getD i 0)) := rangeI0 (range_grown hM.grown HP2.out (by simp; omega)) i (by rw [pl_312]; omega)
      have hok : rootOk ((pl 312).getD i 0) (RH.getD i 0) (H0.getD i 0) false = true := List.all_eq_true.1 okH i (by simpa using hlt)
      have HT : Hid (H0.take (i + 1) = H0.take i ++ [H0.getD i 0]) := by
        show H0.take (i + 1) = _
        rw [List.take_succ_eq_append_getElem (by simpa [H0] using hlt), List.getD_eq_getElem?_getD, List.getElem?_eq_getElem (by simpa [H0] using hlt)]; rfl
      have hLb : (H0.take i).length ≤ 8 := by simp [H0]; omega
      generalize (pl 312).getD i 0 = pp at *
      generalize RH.getD i 0 = rr at *
      generalize H0.getD i 0 = hh at *
      generalize H0.take i = L at *
      have HM : Hid _ := hM
      have HO : Hid _ := hown
      have Hok : Hid _ := hok
      clear hM hown hok
      go_wp2_with fail
      refine (root_ok pp rr hh false _ Hok.out).mono ?_
      rintro e w3 ⟨rfl, hb3⟩
      have hM3 := HM.out.calm (by omega) hb3
      have hO3 : OwnI w2.heap.size w3 u L := OwnI.calm HO.out hb3
      obtain ⟨a, cap, hu⟩ := hO3.form
      subst hu
      have c0 := hM3.c0
      have hs3 := hM3.grown.size
      have HM3 : Hid _ := hM3
      have HO3 : Hid (w3.ownsRow w2.heap.size 3 1 (.slice a L.length cap) L.length (cellsI L)) := hO3
      clear hM3 hO3 hb3 HM HO cp
      go_wp2_with (first
        | refine wpList_append_own _ (by rfl) _ _ 22 (by rfl) w2.heap.size 3 i0 (.int .i64 0) 1 8 Tryd.underlying22 hi hz0 hz1 hz2 (by rfl) (by decide) (.slice a L.length cap) L.length (cellsI L) (by rfl) (by exact World.ownsRow.alloc HO3.out _) ⟨w3.heap.size, 0, none⟩ 1 1 [.int .i64 hh] (by rfl) (by rfl) (by exact cell_one_new _ _ _) (by simp [Value.oneCell']) (by unfold maxLen; omega) (by omega) (by simp only [World.size_alloc]; omega) ?_)
      intro v' w4 hown' hgrow _
      have hM4 := HM3.out.appended (by omega) HO3.out hgrow
      have hO4 : OwnI w2.heap.size w4 v' (H0.take (i + 1)) := by
        show w4.ownsRow _ _ _ _ _ _
        rw [HT.out, List.length_append, List.length_singleton]
        simpa [cellsI] using hown'
      obtain ⟨a4, cap4, hu⟩ := hO4.form
      subst hu
      have d0 := hM4.c0
      have df : w4.frozen? ⟨w.heap.size + 1, 0, none⟩ = false := (hM4.there 0 (by omega)).2
      have HM4 : Hid _ := hM4.put0 (.slice a4 (H0.take (i + 1)).length cap4)
      have HO4 : Hid _ := hO4.put (c := w.heap.size + 1) (j := 0) (by omega) (.slice a4 (H0.take (i + 1)).length cap4)
      generalize hL' : H0.take (i + 1) = L' at *
      have HL' : Hid (H0.take (i + 1) = L') := hL'
      clear hL'
      clear hown' hgrow hM4 hO4 HM3 HO3 c0
      go_wp2_with fail
      go_roundw
      case rel => exact ⟨i + 1, _, by omega, by go_num, HM4.out, by rw [HL'.out]; exact HO4.out⟩
      case measure => simp [intOf]; omega
    · have hi8' : i = 8 := by omega
      generalize wr = wq at *
      subst hi8'
      simp only [show ((8 : Nat) : Int) = 8 from rfl]
      rw [show H0.take 8 = H0 from rfl] at hown
      obtain ⟨hb, ch, rfl, hhb1, hhb2, hhrow, hth⟩ := hown.row (by decide)
      have hB : Below w.heap.size w wq := HB2.out.trans ⟨hM.grown.os, hM.grown.tape, hM.grown.output, hM.grown.size, fun k hk => hM.grown.block k (by omega) (by intro e; injection e; omega)⟩
      have HM3 : Hid (Mad wq wq (w.heap.size + 1) (.slice (some ⟨hb, 0, none⟩) 8 ch) (.slice none 0 0)) := ⟨World.grownBy.refl _ _, hM.c0, hM.c1, hM.there⟩
      have HR3 : Hid (wq.there w.heap.size 0 2) := fun j hj => by
        have h1 := HR2.out j hj
        obtain ⟨v, hv⟩ := Option.isSome_iff_exists.1 h1.1
        have hbk := hM.grown.block w.heap.size (by omega) (by intro e; injection e; omega)
        rw [World.cell?_of_block (w := w2) hbk, World.frozen?_of_block (w := w2) hbk]
        exact h1
      have HP3 : Hid (wq.rangeAt g 0 (cellsI (pl 312))) := range_grown hM.grown HP2.out (by simp; omega)
      have HH3 : Hid (wq.rangeAt hb 0 (cellsI H0)) := hhrow
      have HB3 : Hid (Below w.heap.size w wq) := hB
      clear hM hown hhrow hth hB HR2 HB2 HP2 hlt hi8
      go_wp2_with fail
      go_loopw [5] (fun x W => ∃ (i : Nat) (u : Value), i ≤ 64 ∧ x = .int .i64 i ∧ Mad wq W (w.heap.size + 1) (.slice (some ⟨hb, 0, none⟩) 8 ch) u ∧ OwnI wq.heap.size W u (KSc.take i)) (fun x _ => 64 - (intOf x).toNat)
      case atStart => exact ⟨0, _, by omega, rfl, HM3.out, World.ownsRow_nil _ _ _ _⟩
      case round =>
        clear HM3
        obtain ⟨i, u, hi8, rfl, hM, hown⟩ := hrel
        have hsz2 := hM.grown.size
        by_cases hlt : i < 64
        · have hlt' : (i : Int) < 64 := by omega
          have cp : wr.cell? ⟨g, i, none⟩ = some (.int .i64 ((pl 312).getD i 0)) := rangeI0 (range_grown hM.grown HP3.out (by simp; omega)) i (by rw [pl_312]; omega)
          have hok : rootOk ((pl 312).getD i 0) (RK.getD i 0) (KSc.getD i 0) true = true := List.all_eq_true.1 okK i (by simpa using hlt)
          have HT : Hid (KSc.take (i + 1) = KSc.take i ++ [KSc.getD i 0]) := by
            show KSc.take (i + 1) = _
            rw [List.take_succ_eq_append_getElem (by rw [KSc_length]; exact hlt), List.getD_eq_getElem?_getD, List.getElem?_eq_getElem (by rw [KSc_length]; exact hlt)]; rfl
          have hLb : (KSc.take i).length ≤ 64 := by rw [List.length_take]; omega
          generalize (pl 312).getD i 0 = pp at *
          generalize RK.getD i 0 = rr at *
          generalize KSc.getD i 0 = hh at *
          generalize KSc.take i = L at *
          have HM : Hid _ := hM
          have HO : Hid _ := hown
          have Hok : Hid _ := hok
          clear hM hown hok
          go_wp2_with fail
          refine (root_ok pp rr hh true _ Hok.out).mono ?_
          rintro e w3 ⟨rfl, hb3⟩
          have hM3 := HM.out.calm (by omega) hb3
          have hO3 : OwnI wq.heap.size w3 u L := OwnI.calm HO.out hb3
          obtain ⟨a, cap, hu⟩ := hO3.form
          subst hu
          have c0 := hM3.c1
          have hs3 := hM3.grown.size
          have HM3 : Hid _ := hM3
          have HO3 : Hid (w3.ownsRow wq.heap.size 3 1 (.slice a L.length cap) L.length (cellsI L)) := hO3
          clear hM3 hO3 hb3 HM HO cp
          go_wp2_with (first
            | refine wpList_append_own _ (by rfl) _ _ 22 (by rfl) wq.heap.size 3 i0 (.int .i64 0) 1 8 Tryd.underlying22 hi hz0 hz1 hz2 (by rfl) (by decide) (.slice a L.length cap) L.length (cellsI L) (by rfl) (by exact World.ownsRow.alloc HO3.out _) ⟨w3.heap.size, 0, none⟩ 1 1 [.int .i64 hh] (by rfl) (by rfl) (by exact cell_one_new _ _ _) (by simp [Value.oneCell']) (by unfold maxLen; omega) (by omega) (by simp only [World.size_alloc]; omega) ?_)
          intro v' w4 hown' hgrow _
          have hM4 := HM3.out.appended (by omega) HO3.out hgrow
          have hO4 : OwnI wq.heap.size w4 v' (KSc.take (i + 1)) := by
            show w4.ownsRow _ _ _ _ _ _
            rw [HT.out, List.length_append, List.length_singleton]
            simpa [cellsI] using hown'
          obtain ⟨a4, cap4, hu⟩ := hO4.form
          subst hu
          have d0 := hM4.c1
          have df : w4.frozen? ⟨w.heap.size + 1, 1, none⟩ = false := (hM4.there 1 (by omega)).2
          have HM4 : Hid _ := hM4.put1 (.slice a4 (KSc.take (i + 1)).length cap4)
          have HO4 : Hid _ := hO4.put (c := w.heap.size + 1) (j := 1) (by omega) (.slice a4 (KSc.take (i + 1)).length cap4)
          generalize hL' : KSc.take (i + 1) = L' at *
          have HL' : Hid (KSc.take (i + 1) = L') := hL'
          clear hL'
          clear hown' hgrow hM4 hO4 HM3 HO3 c0
          go_wp2_with fail
          go_roundw
          case rel => exact ⟨i + 1, _, by omega, by go_num, HM4.out, by rw [HL'.out]; exact HO4.out⟩
          case measure => simp [intOf]; omega
        · have hi8' : i = 64 := by omega
          subst hi8'
          simp only [show ((64 : Nat) : Int) = 64 from rfl]
          rw [show KSc.take 64 = KSc from by decide +kernel] at hown
          obtain ⟨kb, ck, rfl, hkb1, hkb2, hkrow, hth⟩ := hown.row (by rw [KSc_length]; omega)
          rw [KSc_length] at hM
          have hB : Below w.heap.size w wr := HB3.out.trans ⟨hM.grown.os, hM.grown.tape, hM.grown.output, hM.grown.size, fun k hk => hM.grown.block k (by omega) (by intro e; injection e; omega)⟩
          have hbk := hM.grown.block w.heap.size (by omega) (by intro e; injection e; omega)
          have HR : Hid (wr.there w.heap.size 0 2) := fun j hj => by
            rw [World.cell?_of_block (w := wq) hbk, World.frozen?_of_block (w := wq) hbk]
            exact HR3.out j hj
          have HHr : Hid (wr.rangeAt hb 0 (cellsI H0)) := range_grown hM.grown HH3.out (by simp; omega)
          have c0 := hM.c0
          have c1 := hM.c1
          have HB : Hid _ := hB
          have HKr : Hid _ := hkrow
          clear hM hown hkrow hth hB hbk hlt hi8 HR3 HH3 HB3 HP3
          go_wp2_with (first
            | refine wpList_store_mid (by rfl) 24 (.tmp 0) (.tmp 38) (by rfl) w.heap.size 0 [Value.slice (some ⟨hb, 0, none⟩) 8 ch, Value.slice (some ⟨kb, 0, none⟩) 64 ck].toArray (by rfl) (by rfl) (by exact HR.out) (by kernel_rfl) (by kernel_rfl) ?_)
          refine bodyPost_ret (v := .agg [Value.slice (some ⟨hb, 0, none⟩) 8 ch, Value.slice (some ⟨kb, 0, none⟩) 64 ck].toArray) (results_cell_mid (p := 0) (ty := 24) (by kernel_rfl) _ _ w.heap.size 0 [Value.slice (some ⟨hb, 0, none⟩) 8 ch, Value.slice (some ⟨kb, 0, none⟩) 64 ck] _ rfl (World.rangeAt_setCells_same _ _ _ _ HR.out) Tryd.underlying24 rfl (by kernel_rfl)) rfl ⟨hb, ch, kb, ck, rfl, below_setCells (Nat.le_refl _) _ _ _ _ HB.out, ?_, ?_, ?_, ?_, by omega, by omega⟩
          · exact World.rangeAt_setCells_apart HHr.out _ _ _ (Or.inl (by omega))
          · rw [size_setCells]; omega
          · exact World.rangeAt_setCells_apart HKr.out _ _ _ (Or.inl (by omega))
          · rw [size_setCells]; omega

end Go.Proofs.YtkmoglhgkcnalaaDoor
