/- strings.Builder's WriteString, by a walk of its own; a place's hash. -/
import Derived.Test.YtkmoglhgkcnalaaFPlace
import Derived.Test.YtkmoglhgkcnalaaShelf
namespace Go.Proofs.Ytkmoglhgkcnalaa
open Go.RowKit

theorem builder_size : ∃ j, Try.prog.info? 63 = some j ∧ j.size = 2 := by
  obtain ⟨j, hj, hjs⟩ := Option.map_eq_some_iff.1 Try.Builder_Extra_169.sizeBuilder
  exact ⟨j, hj, hjs⟩

set_option maxHeartbeats 1000000 in
set_option maxRecDepth 100000 in
theorem check_used (b : Nat) (w : World) (h0 : w.cell? ⟨b, 0, none⟩ = some (.pointer (some ⟨b, 0, none⟩))) :
    Calls Try.prog 41 #[.pointer (some ⟨b, 0, none⟩)] w fun e w' => e = .returned (.tuple #[]) ∧ w' = w := by
  obtain ⟨j, hj, hjs⟩ := builder_size
  go_enter Try.func41, Try.ntmps41
  go_wp2
  rw [Lib.run_neq_ptr_same w _ Try.underlying61 hj]
  go_wp2
  go_end0
  exact ⟨rfl, rfl⟩

set_option maxHeartbeats 1000000 in
set_option maxRecDepth 100000 in
theorem check_fresh (b : Nat) (w : World) (h0 : w.cell? ⟨b, 0, none⟩ = some (.pointer none)) (hsh : w.shape? b = some (63, 2)) (hfz : w.frozen? ⟨b, 0, none⟩ = false) :
    Calls Try.prog 41 #[.pointer (some ⟨b, 0, none⟩)] w fun e w' => e = .returned (.tuple #[]) ∧ w' = w.setCell ⟨b, 0, none⟩ (.pointer (some ⟨b, 0, none⟩)) := by
  obtain ⟨j, hj, hjs⟩ := builder_size
  go_enter Try.func41, Try.ntmps41
  go_wp2
  rw [Lib.run_to_unsafe w ⟨b, 0, none⟩ Try.underlying61 Try.underlying74 hj (by rw [hjs]; decide) hsh (Nat.zero_lt_succ 1)]
  simp only [Result.andThen]
  rw [Oper.upon_value]
  go_wp2
  rw [run_callFunc_extern Try.func43 (by kernel_rfl) (by kernel_rfl) (by kernel_rfl) (e := Extern.AbiNoEscape.same) (by kernel_rfl)]
  rw [Lib.run_noEscape]
  simp only [Result.andThen]
  rw [Oper.upon_value]
  go_wp2
  rw [Lib.run_from_unsafe w ⟨b, 0, none⟩ Try.underlying74 Try.underlying61 hj hsh Try.Builder_Extra_169.liesBuilder]
  simp only [Result.andThen]
  rw [Oper.upon_value]
  go_wp2
  go_end0
  exact ⟨rfl, rfl⟩

theorem check_any (B b : Nat) (bs : List Value) (w : World) (h : Lib.IsBuilderF 63 5 B b bs w) :
    Calls Try.prog 41 #[.pointer (some ⟨b, 0, none⟩)] w fun e w' => e = .returned (.tuple #[]) ∧ (Lib.BuilderAtF 63 5 B b (.pointer (some ⟨b, 0, none⟩)) bs w' ∧ Below B w w') := by
  rcases h with h | h
  · refine (check_fresh b w h.cell0 h.shape h.frozen0).mono ?_
    rintro e w' ⟨rfl, rfl⟩
    exact ⟨rfl, h.used _, (Below.refl B w).setCell (p := ⟨b, 0, none⟩) h.1 _⟩
  · refine (check_used b w h.cell0).mono ?_
    rintro e w' ⟨rfl, rfl⟩
    exact ⟨rfl, h, Below.refl B _⟩

set_option maxHeartbeats 2000000 in
set_option maxRecDepth 100000 in
theorem writeString_any (B b : Nat) (bs : List Value) (s : ByteArray) (w : World) (h : Lib.IsBuilderF 63 5 B b bs w) (hlen : bs.length + s.size ≤ 140737488355328) (hBw : B ≤ w.heap.size) :
    Calls Try.prog 35 #[.pointer (some ⟨b, 0, none⟩), .string s] w fun e w' => e = .returned (.tuple #[.int .i64 s.size, .nilIface]) ∧ (Lib.BuilderAtF 63 5 B b (.pointer (some ⟨b, 0, none⟩)) (bs ++ Lib.strCells s) w' ∧ Below B w w') := by
  obtain ⟨i0, hi, hz0, hz1, hz2⟩ := info_parts Try.Builder_Extra_169.infoByte
  go_enter Try.func35, Try.ntmps35
  go_wp2_with fail
  refine (check_any B b bs _ h).mono ?_
  rintro e w1 ⟨rfl, h1, hb1⟩
  obtain ⟨hB, v, hbk, hown, hne⟩ := h1
  have c0 : w1.cell? ⟨b, 0, none⟩ = some (.pointer (some ⟨b, 0, none⟩)) := by rw [Lib.cell_of_heap hbk]; rfl
  have c1 : w1.cell? ⟨b, 1, none⟩ = some v := by rw [Lib.cell_of_heap hbk]; rfl
  go_wp2_with (at_builtin; refine Lib.wpList_append_own_stringF _ rfl _ _ 46 9 rfl B 5 i0 Try.underlying46 Try.underlying9 hi hz0 hz1 hz2 _ _ _ rfl hown s rfl ?c3 ?c4 ?c5 ?_)
  case c3 => unfold maxLen; omega
  case c4 => omega
  case c5 => have := hb1.size; omega
  intro v' w2 hown' hgrow _
  have hlt : b < w1.heap.size := by
    rcases Nat.lt_or_ge b w1.heap.size with h' | h'
    · exact h'
    · simp [Array.getElem?_eq_none h'] at hbk
  have hb2 : w2.heap[b]? = some (.cells #[.pointer (some ⟨b, 0, none⟩), v] 63 (0, 0)) := by
    rw [hgrow.block b hlt (fun e => hne e.symm)]
    exact hbk
  have d0 : w2.cell? ⟨b, 0, none⟩ = some (.pointer (some ⟨b, 0, none⟩)) := by rw [Lib.cell_of_heap hb2]; rfl
  have d1 : w2.cell? ⟨b, 1, none⟩ = some v := by rw [Lib.cell_of_heap hb2]; rfl
  have f1 : w2.frozen? ⟨b, 1, none⟩ = false := Lib.frozen_of_heap hb2 1
  obtain ⟨ao, n', cap, rfl⟩ : ∃ ao n' cap, v' = .slice ao n' cap := by
    rcases hown'.2 with ⟨hv, _⟩ | ⟨g, cap, cur, fz, hv, _⟩
    · exact ⟨_, _, _, hv⟩
    · exact ⟨_, _, _, hv⟩
  go_wp2
  go_ret2
  refine ⟨rfl, ?_, ?_⟩
  · exact Lib.BuilderAtF.put (T := 63) (e := 5) hB hb2 (bs' := bs ++ Lib.strCells s) (by simpa [Lib.strCells_length] using hown') (by decide)
  · exact (hb1.grown hgrow (by have := hb1.size; omega) (fun k hk => (hown.lt k hk).1)).setCell (p := ⟨b, 1, none⟩) hB _

theorem builder_calm {T e B b : Nat} {p : Value} {bs : List Value} {M M' : World} (h : Lib.BuilderAtF T e B b p bs M) (hb : Below M.heap.size M M') : Lib.BuilderAtF T e B b p bs M' := by
  have hlt := h.lt
  obtain ⟨hB, v, hk, hown, hne⟩ := h
  refine ⟨hB, v, by rw [hb.block b hlt]; exact hk, hown.kept (row := none) ⟨hb.os, hb.tape, hb.output, hb.size, fun k hk _ => hb.block k hk⟩ ?_, hne⟩
  cases hv : v.ownBlock with
  | none => exact .inl rfl
  | some k => exact .inr (by simp)
theorem isBuilder_calm {T e B b : Nat} {bs : List Value} {M M' : World} (h : Lib.IsBuilderF T e B b bs M) (hb : Below M.heap.size M M') : Lib.IsBuilderF T e B b bs M' :=
  h.elim (fun x => .inl (builder_calm x hb)) (fun x => .inr (builder_calm x hb))

/-- words as bytes, two a word -/
def hashL (L : List Int) : List UInt8 := L.flatMap fun x => octF x.toNat 2
theorem hashL_length (L : List Int) : (hashL L).length = 2 * L.length := by
  induction L with
  | nil => rfl
  | cons x L ih => rw [hashL, List.flatMap_cons, List.length_append, octF_length]; rw [hashL] at ih; rw [ih]; simp; omega

set_option maxHeartbeats 1000000 in
set_option maxRecDepth 100000 in
theorem hash_any (L : List Int) (g off cap : Nat) (w : World) (hr : w.rangeAt g off (cellsI L)) (hl : L.length = 20) (hw : ∀ k, k < 20 → 0 ≤ L.getD k 0 ∧ L.getD k 0 < 65536) (hg : g < w.heap.size) (hcap : 20 ≤ cap) :
    Calls Try.prog 28 #[.slice (some ⟨g, off, none⟩) 20 cap] w fun e w' => e = .returned (.string ⟨(hashL (L.drop 4)).toArray⟩) ∧ Below w.heap.size w w' := by
  have Hr : Hid (w.rangeAt g off (cellsI L)) := hr
  have Hw : Hid (∀ k, k < 20 → 0 ≤ L.getD k 0 ∧ L.getD k 0 < 65536) := hw
  have Hl : Hid (L.length = 20) := hl
  clear hr hw hl
  go_enter Try.func28, Try.ntmps28
  go_wp2
  go_loopw [5, 9] (fun _ i wr => ∃ k : Nat, k ≤ 16 ∧ i = .int .i64 k ∧ Lib.IsBuilderF 63 5 w.heap.size w.heap.size (Lib.byteCells (hashL ((L.drop 4).take k))) wr ∧ Below w.heap.size w wr) (fun _ i _ => 16 - (intOf i).toNat)
  case atStart => exact ⟨0, by omega, rfl, Lib.IsBuilderF.of (Lib.fresh_isBuilder _ _ w), (Below.refl _ _).alloc (Nat.le_refl _) _⟩
  case round =>
    obtain ⟨k, hk, rfl, hB, hbl⟩ := hrel
    by_cases hlt : k < 16
    · have hlt' : (k : Int) < 16 := by omega
      have hc := rangeI (range_below hbl hg Hr.out) (4 + k) (by rw [Hl.out]; omega)
      rw [← Nat.add_assoc] at hc
      have hx := Hw.out (4 + k) (by omega)
      have HT : Hid ((L.drop 4).take (k + 1) = (L.drop 4).take k ++ [L.getD (4 + k) 0]) := by
        show (L.drop 4).take (k + 1) = _
        have h1 : k < (L.drop 4).length := by rw [List.length_drop, Hl.out]; omega
        rw [List.take_succ_eq_append_getElem h1, List.getElem_drop, List.getD_eq_getElem?_getD, List.getElem?_eq_getElem (by rw [Hl.out]; omega)]; rfl
      generalize L.getD (4 + k) 0 = x at *
      obtain ⟨n, rfl⟩ := Int.eq_ofNat_of_zero_le hx.1
      have hn : n < 65536 := by omega
      have HB : Hid (Lib.IsBuilderF 63 5 w.heap.size w.heap.size (Lib.byteCells (hashL ((L.drop 4).take k))) wr) := hB
      have Hbl : Hid (Below w.heap.size w wr) := hbl
      have HN : Hid (n < 65536) := hn
      have hlen : (hashL ((L.drop 4).take k)).length ≤ 32 := by rw [hashL_length, List.length_take]; omega
      have HLen : Hid ((hashL ((L.drop 4).take k)).length ≤ 32) := hlen
      clear hB hbl hx hn hlen
      go_wp2_with fail
      refine (u16_any n _ HN.out).mono ?_
      rintro e w1 ⟨rfl, hb1⟩
      have Hb1 : Hid (Below wr.heap.size wr w1) := hb1
      clear hb1
      have HO : Hid ((octF n 2).length = 2) := octF_length 2 n
      have HH : Hid (hashL ((L.drop 4).take (k + 1)) = hashL ((L.drop 4).take k) ++ octF n 2) := by
        show hashL ((L.drop 4).take (k + 1)) = _
        rw [HT.out, hashL, List.flatMap_append]; simp [hashL]
      generalize octF n 2 = O at *
      go_wp2_with fail
      have hsz := Hb1.out.size
      have hsz0 := Hbl.out.size
      refine (writeString_any w.heap.size w.heap.size _ ⟨O.toArray⟩ w1 (isBuilder_calm HB.out Hb1.out) (by rw [Lib.byteCells_length]; have h3 := HLen.out; have h4 := HO.out; show _ + O.toArray.size ≤ _; rw [List.size_toArray]; omega) (by omega)).mono ?_
      rintro e w2 ⟨rfl, hB2, hb2⟩
      have HB2 : Hid _ := hB2
      have Hb2 : Hid _ := hb2
      clear hB2 hb2
      go_wp2_with fail
      go_roundw
      case rel => exact ⟨k + 1, by omega, by go_num, .inr (by rw [HH.out, Lib.byteCells_append]; exact HB2.out), (Hbl.out.trans (Hb1.out.mono Hbl.out.size)).trans Hb2.out⟩
      case measure => simp [intOf]; omega
    · have hk16 : k = 16 := by omega
      subst hk16
      have hlt' : ¬ ((16 : Nat) : Int) < 16 := by decide
      have HT : Hid ((L.drop 4).take 16 = L.drop 4) := List.take_of_length_le (by rw [List.length_drop, Hl.out]; omega)
      rw [HT.out] at hB
      generalize hO : hashL (L.drop 4) = O at *
      have HO : Hid (hashL (L.drop 4) = O) := hO
      clear hO
      have HB : Hid _ := hB
      have Hbl : Hid _ := hbl
      have hsz0 := hbl.size
      clear hB hbl
      go_wp2_with fail
      refine (Try.Builder_String_any_f w.heap.size w.heap.size O wr HB.out hsz0).mono ?_
      rintro e w1 ⟨rfl, _, hb1⟩
      go_wp2_with fail
      go_ret
      exact ⟨ret_str HO.out.symm, Hbl.out.trans hb1⟩

end Go.Proofs.Ytkmoglhgkcnalaa
