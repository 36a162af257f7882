import Derived.Test.YtkmoglhgkcnalaaDoorMixed
import Derived.Test.YtkmoglhgkcnalaaDoorDig
import Derived.Test.YtkmoglhgkcnalaaDoorAid3
import Derived.Test.YtkmoglhgkcnalaaDoorRules
namespace Go.Proofs.YtkmoglhgkcnalaaDoor
open Go.RowKit

def strLen : Value → Nat
  | .string t => t.size
  | _ => 0

theorem slice_tail (b h : Nat) (hh : h < 64) (W : World) : (Instr.sliceAt 54 (.pointer (some ⟨b, 8, none⟩)) (some (.int .i64 (h : Int))) none none).run Tryd.prog W = .ok (.slice (some ⟨b, 8 + h, none⟩) (64 - h) (64 - h)) W := by
  have hu : Tryd.prog.underlying 54 = some (.array (Tryd.prog.arrayLen 54) (Tryd.prog.elem 54)) := by kernel_rfl
  have hl : Tryd.prog.arrayLen 54 = 64 := by kernel_rfl
  have he : Tryd.prog.elem 54 = 5 := by kernel_rfl
  have hs : (sizeOf 5).run Tryd.prog W = .ok 1 W := by kernel_rfl
  rw [run_sliceAt_array_l W 54 _ hu _ _ (by omega) (by rw [hl]; omega), hl, he, hs]
  simp only [Result.andThen_ok, slicedAt]
  rw [Int.toNat_natCast, if_neg (by omega), Addr.add_mid, Nat.mul_one]
theorem slice_str (rest : List UInt8) (n : Nat) : (ByteArray.mk rest.toArray).extract n rest.length = ⟨(rest.drop n).toArray⟩ := by
  apply ByteArray.ext
  simp
  exact List.take_of_length_le (by simp)

set_option maxRecDepth 100000 in
set_option maxHeartbeats 1000000 in
theorem write_any (KS : List Int) (L blk : List UInt8) (s : ByteArray) (w : World) (b : Nat) (hD : DigM w b KS L blk L.length) (hK : w.rangeAt 0 0 (cellsW KS)) (hKl : KS.length = 64) (hb0 : 0 < b) (hb : b < w.heap.size)
    (hlen : L.length + s.size ≤ 4611686018427387904) :
    Calls Tryd.prog 30 #[.pointer (some ⟨b, 0, none⟩), .string s] w fun e w' => e = .returned (.tuple #[]) ∧ w.grownBy w' (some b) ∧ ∃ blk', DigM w' b KS (L ++ s.data.toList) blk' (L.length + s.size) := by
  have hc := hD.length
  have hf : w.frozen? ⟨b, 72, none⟩ = false := by have := (hD.there 72 (by omega)).2; rwa [Nat.zero_add] at this
  have HD : Hid (DigM w b KS L blk L.length) := hD
  have HK : Hid (w.rangeAt 0 0 (cellsW KS)) := hK
  have Hl : Hid (L.length + s.size ≤ 4611686018427387904) := hlen
  have h1 : (L.length : Int) ≤ 4611686018427387904 := by omega
  have h2 : (s.size : Int) ≤ 4611686018427387904 := by omega
  clear hD hK hlen
  go_enter Tryd.func30, Tryd.ntmps30
  go_wp2
  go_loopw [1, 4] (fun pc hd wr => ∃ (q rest blk' : List UInt8), s.data.toList = q ++ rest ∧ pc = .string ⟨rest.toArray⟩ ∧ hd = .int .i64 (((L ++ q).length % 64 : Nat) : Int) ∧ DigM wr b KS (L ++ q) blk' (L.length + s.size) ∧ w.grownBy wr (some b)) (fun pc _ _ => strLen pc)
  case atStart => exact ⟨[], s.data.toList, blk, rfl, rfl, by simp, by rw [List.append_nil]; have := HD.out.setLen (L.length + s.size); simpa using this, grown_setCell _ _ _ _⟩
  case round =>
    clear hc hf
    obtain ⟨q, rest, blk', hq, rfl, rfl, hD, hG⟩ := hrel
    have HQ : Hid (s.data.toList = q ++ rest) := hq
    have HD' : Hid (DigM wr b KS (L ++ q) blk' (L.length + s.size)) := hD
    have HG : Hid (w.grownBy wr (some b)) := hG
    have hm : (L ++ q).length % 64 < 64 := by omega
    generalize hh : (L ++ q).length % 64 = h at hm
    have HH : Hid ((L ++ q).length % 64 = h) := hh
    clear hq hD hG hh
    by_cases hr : rest = []
    · subst hr
      go_wp2
      go_end0
      exact ⟨rfl, HG.out, blk', by rw [HQ.out, List.append_nil]; exact HD'.out⟩
    · have hpos : 0 < rest.length := List.length_pos_iff.2 hr
      have hsz : (ByteArray.mk rest.toArray).size = rest.length := by show rest.toArray.size = _; simp
      obtain ⟨n, hn⟩ : ∃ n, n = min rest.length (64 - h) := ⟨_, rfl⟩
      have hcp := run_copy_str (P := Tryd.prog) wr 51 3 5 Tryd.underlying51 (by kernel_rfl) 9 b (8 + h) (64 - h) (64 - h) n ⟨rest.toArray⟩ (by rw [hsz]; exact hn.symm) (there_sub HD'.out.there (by omega) (by omega))
      have hn1 : n ≤ rest.length := by omega
      have hn2 : n ≤ 64 - h := by omega
      have hn0 : 0 < n := by omega
      have Hn : Hid (n = min rest.length (64 - h)) := hn
      clear hn
      have hsl := fun W => slice_tail b h hm W
      by_cases hfull : h + n = 64
      · have hfb : (((h : Int) + (n : Int)) == 64) = true := by rw [beq_iff_eq]; omega
        go_wp2_with fail
        obtain ⟨c1, c2, c3, c4⟩ := HD'.out.copied (rest.take n) (by rw [HH.out]; simp; omega)
        rw [HH.out] at c1 c2 c3 c4
        have hWs : (wr.setCells b (8 + h) (cellsB (rest.take n))).heap.size = wr.heap.size := size_setCells _ _ _ _
        obtain ⟨W1, hW1⟩ : ∃ W1, W1 = wr.setCells b (8 + h) (cellsB (rest.take n)) := ⟨_, rfl⟩
        rw [← hW1] at c1 c2 c3 c4 hWs ⊢
        have HW1 : Hid (W1 = wr.setCells b (8 + h) (cellsB (rest.take n))) := hW1
        have hlt : (rest.take n).length = n := by simp; omega
        have hB' : (overB blk' (rest.take n) h).length = 64 := overB_length _ _ _ HD'.out.len (by omega)
        have hH' : (foldTo KS (L ++ q) ((L ++ q).length / 64)).length = 8 := foldTo_length _ _ _
        generalize hBB : overB blk' (rest.take n) h = BB at *
        generalize hFF : foldTo KS (L ++ q) ((L ++ q).length / 64) = FF at *
        have hi53 : (Tryd.prog.info? 53).map (·.size) = some (cellsW FF).length := by rw [cellsW_length, hH']; kernel_rfl
        have hi54 : (Tryd.prog.info? 54).map (·.size) = some (cellsB BB).length := by rw [cellsB_length, hB']; kernel_rfl
        clear hcp hsl hfb
        have hKW : (World.drew W1).rangeAt 0 0 (cellsW KS) := by
          rw [World.rangeAt_drew, HW1.out]
          exact World.rangeAt_setCells_apart (range_grown HG.out HK.out (by simp; omega)) _ _ _ (Or.inl (by omega))
        have hgs := HG.out.size
        have hW0 : 0 < (World.drew W1).heap.size := by show 0 < W1.heap.size; omega
        have hbW : b < W1.heap.size := by omega
        have HKW : Hid ((World.drew W1).rangeAt 0 0 (cellsW KS)) := hKW
        have HW0 : Hid (0 < (World.drew W1).heap.size) := hW0
        have HWs : Hid (W1.heap.size = wr.heap.size) := hWs
        have Hc4 : Hid (W1.there b 0 73) := c4
        have HBB : Hid (overB blk' (rest.take n) h = BB) := hBB
        have HFF : Hid (foldTo KS (L ++ q) ((L ++ q).length / 64) = FF) := hFF
        clear hKW hW0 hWs c3 c4 hBB hFF hW1 hgs
        have hml : (mixF KS FF BB).length = 8 := mixF_length _ _ _
        have hmx := mixed_any FF KS BB hH' hB' (World.drew W1) HKW.out hKl HW0.out
        generalize hMM : mixF KS FF BB = MM at *
        have HMM : Hid (mixF KS FF BB = MM) := hMM
        have Hmx : Hid (Calls _ _ _ _ _) := hmx
        have hms : (cellsW MM).toArray.size = 8 := by simp [cellsW_length, hml]
        have Ht53 : Hid ((World.drew W1).there b 0 (cellsW MM).toArray.size) := by show (World.drew W1).there b 0 _; rw [hms]; exact (World.there_drew _ _ _ _).2 (there_sub Hc4.out (by omega) (by omega))
        have Hi53 : Hid ((Tryd.prog.info? 53).map (·.size) = some (cellsW MM).toArray.size) := by show _ = some (cellsW MM).toArray.size; rw [hms]; kernel_rfl
        clear hMM hmx hH' hB' hms
        refine wp_region_any (by kernel_rfl) ?_
        change wpAny _ _ _ _ _ _ _ (World.drew W1)
        refine wpAny_take (i := 0) (v := .pointer (some ⟨b, 0, none⟩)) rfl (by kernel_rfl) (by kernel_rfl) (by kernel_rfl) (fun _ _ _ h => h) (Or.inl ⟨by rfl, by intro w; go_simp⟩) ?_
        refine wpAny_take (i := 1) (v := .pointer (some ⟨b, 0, none⟩)) rfl (by kernel_rfl) (by kernel_rfl) (by kernel_rfl) (fun _ _ _ h => h) (Or.inl ⟨by rfl, by intro w; go_simp⟩) ?_
        refine wpAny_take (i := 2) (v := .pointer (some ⟨b, 0, none⟩)) rfl (by kernel_rfl) (by kernel_rfl) (by kernel_rfl) (fun _ _ _ h => h) (Or.inl ⟨by rfl, by intro w; go_simp⟩) ?_
        refine wpAny_take (i := 3) (v := .pointer (some ⟨b, 0, none⟩)) rfl (by kernel_rfl) (by kernel_rfl) (by kernel_rfl) (fun _ _ _ h => h) (Or.inl ⟨by rfl, by intro w; go_simp⟩) ?_
        refine wpAny_take (i := 5) (v := .pointer (some ⟨b, 0, none⟩)) rfl (by kernel_rfl) (by kernel_rfl) (by kernel_rfl) (fun _ _ _ h => h) (Or.inl ⟨by rfl, by intro w; go_simp⟩) ?_
        refine wpAny_take (i := 6) (v := .pointer (some ⟨b, 0, none⟩)) rfl (by kernel_rfl) (by kernel_rfl) (by kernel_rfl) (fun _ _ _ h => h) (Or.inl ⟨by rfl, by intro w; go_simp⟩) ?_
        refine wpAny_take (i := 7) (v := .pointer (some ⟨b, 8, none⟩)) rfl (by kernel_rfl) (by kernel_rfl) (by kernel_rfl) (fun _ _ _ h => h) (Or.inl ⟨by rfl, by intro w; go_simp⟩) ?_
        refine wpAny_all (rs := [4, 8]) (by kernel_rfl) (List.cons_ne_nil _ _) (all_two (YieldsIf.wpOp (S := fun w' => w' = World.drew W1) (v := .agg (cellsW FF).toArray) rfl (yieldsIf_load_mid (by rfl) 53 (.tmp 43) rfl b 0 (by go_simp) (cellsW FF) _ (fun w' hw' => hw' ▸ range_drew c2) Tryd.underlying53 rfl hi53) rfl ?_) (YieldsIf.wpOp (S := fun w' => w' = World.drew W1) (v := .agg (cellsB BB).toArray) rfl (yieldsIf_load_mid (by rfl) 54 (.tmp 47) rfl b 8 (by go_simp) (cellsB BB) _ (fun w' hw' => hw' ▸ range_drew c1) Tryd.underlying54 rfl hi54) rfl ?_))
        · refine wpAny_all (rs := [8]) (by kernel_rfl) (List.cons_ne_nil _ _) (all_one (YieldsIf.wpOp (S := fun w' => w' = World.drew W1) (v := .agg (cellsB BB).toArray) rfl (yieldsIf_load_mid (by rfl) 54 (.tmp 47) rfl b 8 (by go_simp) (cellsB BB) _ (fun w' hw' => hw' ▸ range_drew c1) Tryd.underlying54 rfl hi54) rfl ?_))
          refine wpAny_all (rs := [9]) (by kernel_rfl) (List.cons_ne_nil _ _) (all_one (wpOp_run rfl rfl (wp_call 46 #[.agg (cellsW FF).toArray, .agg (cellsB BB).toArray] (by go_simp) (.agg (cellsW MM).toArray) _ Hmx.out (fun w2 hb2 => ?_))))
          refine wpAny_take (i := 10) (v := .pointer (some ⟨b, 0, none⟩)) rfl (by kernel_rfl) (by kernel_rfl) (by kernel_rfl) (fun _ _ _ h => h) (Or.inl ⟨by rfl, by intro w; go_simp⟩) ?_
          refine wpAny_take (i := 11) (v := .pointer (some ⟨b, 0, none⟩)) rfl (by kernel_rfl) (by kernel_rfl) (by kernel_rfl) (fun _ _ _ h => h) (Or.inl ⟨by rfl, by intro w; go_simp⟩) ?_
          have ht2 : w2.there b 0 (cellsW MM).toArray.size := there_below hb2 (show b < (World.drew W1).heap.size from hbW) Ht53.out
          refine wpAny_all (rs := [12]) (by kernel_rfl) (List.cons_ne_nil _ _) (all_one (wpOp_store_mid (by rfl) (by rfl) 53 (.tmp 51) (.tmp 49) (by rfl) b 0 (cellsW MM).toArray ?e4 ?e5 ht2 Hi53.out (all_oneCell_toArray (cellsW_one MM)) (by rfl) ?e7))
          case e4 => go_simp
          case e5 => go_simp
          case e7 =>
            refine wpAny_done (by kernel_rfl) ?_ _
            have HB2 : Hid (Below (World.drew W1).heap.size (World.drew W1) w2) := hb2
            clear hb2 ht2
            go_wp2_with fail
            rw [slice_str]
            have hst : strLen (.string ⟨(rest.drop n).toArray⟩) < strLen (.string ⟨rest.toArray⟩) := by
              show (rest.drop n).toArray.size < rest.toArray.size
              simp; omega
            have hbw : Below wr.heap.size (wr.setCells b (8 + (L ++ q).length % 64) (cellsB (rest.take n))) w2 := by
              rw [HH.out, ← HW1.out]
              exact (Below.drew (Below.refl _ W1)).trans (HB2.out.mono (show wr.heap.size ≤ W1.heap.size from by rw [HWs.out]; exact Nat.le_refl _))
            have hfu := HD'.out.full (rest.take n) (by rw [HH.out, hlt]; exact hfull) hbw (by rw [← HWs.out]; exact hbW)
            rw [HH.out, HFF.out, HBB.out, HMM.out, List.append_assoc] at hfu
            have hmod : (L ++ (q ++ rest.take n)).length % 64 = 0 := by
              have := HH.out
              simp only [List.length_append, hlt] at this ⊢
              omega
            have hgr : w.grownBy W1 (some b) := by rw [HW1.out]; exact grown_trans HG.out (grown_setCells _ _ _ _)
            exact ⟨⟨q ++ rest.take n, rest.drop n, _, by rw [HQ.out]; simp, rfl, by rw [hmod]; rfl, hfu, grown_trans hgr (grown_trans (grown_below ((Below.drew (Below.refl _ W1)).trans HB2.out)) (grown_setCells _ _ _ _))⟩, hst⟩
        · refine wpAny_all (rs := [4]) (by kernel_rfl) (List.cons_ne_nil _ _) (all_one (YieldsIf.wpOp (S := fun w' => w' = World.drew W1) (v := .agg (cellsW FF).toArray) rfl (yieldsIf_load_mid (by rfl) 53 (.tmp 43) rfl b 0 (by go_simp) (cellsW FF) _ (fun w' hw' => hw' ▸ range_drew c2) Tryd.underlying53 rfl hi53) rfl ?_))
          refine wpAny_all (rs := [9]) (by kernel_rfl) (List.cons_ne_nil _ _) (all_one (wpOp_run rfl rfl (wp_call 46 #[.agg (cellsW FF).toArray, .agg (cellsB BB).toArray] (by go_simp) (.agg (cellsW MM).toArray) _ Hmx.out (fun w2 hb2 => ?_))))
          refine wpAny_take (i := 10) (v := .pointer (some ⟨b, 0, none⟩)) rfl (by kernel_rfl) (by kernel_rfl) (by kernel_rfl) (fun _ _ _ h => h) (Or.inl ⟨by rfl, by intro w; go_simp⟩) ?_
          refine wpAny_take (i := 11) (v := .pointer (some ⟨b, 0, none⟩)) rfl (by kernel_rfl) (by kernel_rfl) (by kernel_rfl) (fun _ _ _ h => h) (Or.inl ⟨by rfl, by intro w; go_simp⟩) ?_
          have ht2 : w2.there b 0 (cellsW MM).toArray.size := there_below hb2 (show b < (World.drew W1).heap.size from hbW) Ht53.out
          refine wpAny_all (rs := [12]) (by kernel_rfl) (List.cons_ne_nil _ _) (all_one (wpOp_store_mid (by rfl) (by rfl) 53 (.tmp 51) (.tmp 49) (by rfl) b 0 (cellsW MM).toArray ?e4 ?e5 ht2 Hi53.out (all_oneCell_toArray (cellsW_one MM)) (by rfl) ?e7))
          case e4 => go_simp
          case e5 => go_simp
          case e7 =>
            refine wpAny_done (by kernel_rfl) ?_ _
            have HB2 : Hid (Below (World.drew W1).heap.size (World.drew W1) w2) := hb2
            clear hb2 ht2
            go_wp2_with fail
            rw [slice_str]
            have hst : strLen (.string ⟨(rest.drop n).toArray⟩) < strLen (.string ⟨rest.toArray⟩) := by
              show (rest.drop n).toArray.size < rest.toArray.size
              simp; omega
            have hbw : Below wr.heap.size (wr.setCells b (8 + (L ++ q).length % 64) (cellsB (rest.take n))) w2 := by
              rw [HH.out, ← HW1.out]
              exact (Below.drew (Below.refl _ W1)).trans (HB2.out.mono (show wr.heap.size ≤ W1.heap.size from by rw [HWs.out]; exact Nat.le_refl _))
            have hfu := HD'.out.full (rest.take n) (by rw [HH.out, hlt]; exact hfull) hbw (by rw [← HWs.out]; exact hbW)
            rw [HH.out, HFF.out, HBB.out, HMM.out, List.append_assoc] at hfu
            have hmod : (L ++ (q ++ rest.take n)).length % 64 = 0 := by
              have := HH.out
              simp only [List.length_append, hlt] at this ⊢
              omega
            have hgr : w.grownBy W1 (some b) := by rw [HW1.out]; exact grown_trans HG.out (grown_setCells _ _ _ _)
            exact ⟨⟨q ++ rest.take n, rest.drop n, _, by rw [HQ.out]; simp, rfl, by rw [hmod]; rfl, hfu, grown_trans hgr (grown_trans (grown_below ((Below.drew (Below.refl _ W1)).trans HB2.out)) (grown_setCells _ _ _ _))⟩, hst⟩
      · have hfb : (((h : Int) + (n : Int)) == 64) = false := by rw [beq_eq_false_iff_ne]; omega
        go_wp2_with fail
        rw [slice_str]
        have hlt : (rest.take n).length = n := by simp; omega
        have hst : strLen (.string ⟨(rest.drop n).toArray⟩) < strLen (.string ⟨rest.toArray⟩) := by
          show (rest.drop n).toArray.size < rest.toArray.size
          simp; omega
        have hmo := HD'.out.more (rest.take n) (by rw [HH.out, hlt]; omega)
        have hmod : (L ++ (q ++ rest.take n)).length % 64 = h + n := by
          have := HH.out
          simp only [List.length_append, hlt] at this ⊢
          omega
        rw [HH.out, List.append_assoc] at hmo
        exact ⟨⟨q ++ rest.take n, rest.drop n, _, by rw [HQ.out]; simp, rfl, by rw [hmod]; simp, hmo, grown_trans HG.out (grown_setCells _ _ _ _)⟩, hst⟩

end Go.Proofs.YtkmoglhgkcnalaaDoor
