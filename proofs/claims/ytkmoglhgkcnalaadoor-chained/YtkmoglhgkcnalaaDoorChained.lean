import Derived.Test.YtkmoglhgkcnalaaDoorKnown
namespace Go.Proofs.YtkmoglhgkcnalaaDoor
open Go.RowKit

theorem catB (a b : List UInt8) : (ByteArray.mk a.toArray) ++ (ByteArray.mk b.toArray) = ByteArray.mk (a ++ b).toArray := by
  apply ByteArray.ext
  simp
theorem takeB (r : List UInt8) (n : Nat) : (ByteArray.mk r.toArray).extract 0 n = ⟨(r.take n).toArray⟩ := by
  apply ByteArray.ext
  simp

set_option maxRecDepth 100000 in
set_option maxHeartbeats 1000000 in
theorem chained_some (s : ByteArray) (zs : List Int) (n cap b off : Nat) (w : World) (hcut : ∀ k, k < n → w.cell? ⟨b, off + k, none⟩ = some (.int .i64 (zs.getD k 0))) (hz1 : ∀ k : Nat, -9223372036854775808 ≤ zs.getD k 0) (hz2 : ∀ k : Nat, zs.getD k 0 ≤ 9223372036854775807)
    (hb : b < w.heap.size) (hn : n ≤ 9223372036854775807) (hs : s.size ≤ 140737488355328) (hK : w.rangeAt 0 0 (cellsW KSc)) (h0 : 0 < w.heap.size) :
    Calls Tryd.prog 7 #[.string s, .slice (some ⟨b, off, none⟩) n cap] w fun e w' => e = .returned (.bool true) ∧ Below w.heap.size w w' := by
  have Hcut : Hid (∀ k, k < n → w.cell? ⟨b, off + k, none⟩ = some (.int .i64 (zs.getD k 0))) := hcut
  have Hz1 : Hid (∀ k : Nat, -9223372036854775808 ≤ zs.getD k 0) := hz1
  have Hz2 : Hid (∀ k : Nat, zs.getD k 0 ≤ 9223372036854775807) := hz2
  have HK : Hid (w.rangeAt 0 0 (cellsW KSc)) := hK
  clear hcut hz1 hz2 hK
  go_enter Tryd.func7, Tryd.ntmps7
  go_wp2_with fail
  refine (known_any _ HK.out h0).mono ?_
  rintro e w1 ⟨rfl, hb1⟩
  have Hb1 : Hid (Below w.heap.size w w1) := hb1
  clear hb1
  go_wp2_with fail
  refine (newHash_any KSc _).mono ?_
  rintro e w2 ⟨p, rfl, hp1, hp2, hb2, hD2⟩
  have Hb2 : Hid (Below w.heap.size w w2) := Hb1.out.trans (hb2.mono Hb1.out.size)
  have HD2 : Hid (DigM w2 p KSc [] (List.replicate 64 0) 0) := hD2
  have hp : w.heap.size ≤ p := Nat.le_trans Hb1.out.size hp1
  clear hb2 hD2 hp1 Hb1
  go_wp2
  go_loopw [7, 8, 9] (fun dn rs i wr => ∃ (k : Nat) (q r blk : List UInt8), k ≤ n ∧ i = .int .i64 k ∧ s.data.toList = q ++ r ∧ dn = .string ⟨q.toArray⟩ ∧ rs = .string ⟨r.toArray⟩ ∧ DigM wr p KSc q blk q.length ∧ Below w.heap.size w wr ∧ p < wr.heap.size) (fun _ _ i _ => n - (intOf i).toNat)
  case atStart => exact ⟨0, [], s.data.toList, _, Nat.zero_le _, rfl, rfl, rfl, rfl, HD2.out, Hb2.out, hp2⟩
  case round =>
    clear HD2 Hb2
    obtain ⟨k, q, r, blk, hk, rfl, hqr, rfl, rfl, hD, hB, hpw⟩ := hrel
    have HD : Hid (DigM wr p KSc q blk q.length) := hD
    have HB : Hid (Below w.heap.size w wr) := hB
    have HQ : Hid (s.data.toList = q ++ r) := hqr
    have hle : q.length + r.length ≤ 140737488355328 := by
      have h1 : s.data.toList.length = s.size := by rw [Array.length_toList]; rfl
      rw [hqr, List.length_append] at h1; omega
    clear hD hB hqr
    by_cases hlt : k < n
    · have hcl : wr.cell? ⟨b, off + k, none⟩ = some (.int .i64 (zs.getD k 0)) := by rw [HB.out.cell (p := ⟨b, off + k, none⟩) hb]; exact Hcut.out k hlt
      have hz1 := Hz1.out k
      have hz2 := Hz2.out k
      generalize zs.getD k 0 = z at hcl hz1 hz2
      have hlt' : (k : Int) < (n : Int) := by omega
      go_wp2_with fail
      refine (pick_any _ _ _ (by omega) (by omega) (by omega)).mono ?_
      rintro e w' ⟨⟨v, rfl, hv0, hv1⟩, rfl⟩
      obtain ⟨vn, rfl⟩ := Int.eq_ofNat_of_zero_le hv0
      by_cases hbig : r.length < vn
      · have hbig' : (r.length : Int) < (vn : Int) := by omega
        go_wp2_with fail
        rw [takeB]
        refine (hashWrite_any KSc q blk _ _ p HD.out (range_below HB.out h0 HK.out) KSc_length (by omega) hpw (by show q.length + (r.take r.length).toArray.size ≤ _; simp; omega)).mono ?_
        rintro e w3 ⟨rfl, hg3, blk3, hD3⟩
        have HD3 : Hid (DigM w3 p KSc (q ++ r.take r.length) blk3 (q ++ r.take r.length).length) := by
          have e1 : q.length + (ByteArray.mk (r.take r.length).toArray).size = (q ++ r.take r.length).length := by show q.length + (r.take r.length).toArray.size = _; simp
          rw [e1] at hD3
          exact hD3
        have HB3 : Hid (Below w.heap.size w w3) := below_of_grown HB.out hg3 hp
        have hp3 : p < w3.heap.size := by have := hg3.size; omega
        clear hg3 hD3
        have hcl3 : w3.cell? ⟨b, off + k, none⟩ = some (.int .i64 z) := by rw [HB3.out.cell (p := ⟨b, off + k, none⟩) hb, ← HB.out.cell (p := ⟨b, off + k, none⟩) hb]; exact hcl
        clear hcl
        by_cases hpar : z.tmod 2 = 0
        · have hpb : (z.tmod 2 == 0) = true := by rw [beq_iff_eq]; exact hpar
          go_wp2_with fail
          refine (hashSum_any KSc _ _ w3 p HD3.out (range_below HB3.out h0 HK.out) KSc_length (by omega) (by simp; omega)).mono ?_
          rintro e w4 ⟨rfl, hb4⟩
          have HB4 : Hid (Below w.heap.size w w4) := HB3.out.trans (hb4.mono HB3.out.size)
          have HD4 : Hid (DigM w4 p KSc (q ++ r.take r.length) blk3 (q ++ r.take r.length).length) := HD3.out.below hb4 hp3
          have hp4 : p < w4.heap.size := by have := hb4.size; omega
          clear hb4
          go_wp2_with fail
          rw [takeB, catB]
          refine (sha_any KSc _ w4 (range_below HB4.out h0 HK.out) KSc_length (by show (q ++ r.take r.length).toArray.size ≤ _; simp; omega)).mono ?_
          rintro e w5 ⟨rfl, hb5⟩
          have HB5 : Hid (Below w.heap.size w w5) := HB4.out.trans (hb5.mono HB4.out.size)
          have HD5 : Hid (DigM w5 p KSc (q ++ r.take r.length) blk3 (q ++ r.take r.length).length) := HD4.out.below hb5 hp4
          have hp5 : p < w5.heap.size := by have := hb5.size; omega
          clear hb5
          go_wp2
          go_roundw
          case rel => exact ⟨k + 1, q ++ r.take r.length, r.drop r.length, _, by omega, by go_num, by rw [HQ.out]; simp, by rw [List.take_length], by rw [List.drop_length]; rfl, HD5.out, HB5.out, hp5⟩
          case measure => simp [intOf]; omega
        · have hpb : (z.tmod 2 == 0) = false := by rw [beq_eq_false_iff_ne]; exact hpar
          go_wp2_with fail
          go_roundw
          case rel => exact ⟨k + 1, q ++ r.take r.length, r.drop r.length, _, by omega, by go_num, by rw [HQ.out]; simp, by rw [takeB, catB], by rw [List.drop_length]; rfl, HD3.out, HB3.out, hp3⟩
          case measure => simp [intOf]; omega
      · have hbig' : ¬ (r.length : Int) < (vn : Int) := by omega
        go_wp2_with fail
        rw [takeB]
        refine (hashWrite_any KSc q blk _ _ p HD.out (range_below HB.out h0 HK.out) KSc_length (by omega) hpw (by show q.length + (r.take vn).toArray.size ≤ _; simp; omega)).mono ?_
        rintro e w3 ⟨rfl, hg3, blk3, hD3⟩
        have HD3 : Hid (DigM w3 p KSc (q ++ r.take vn) blk3 (q ++ r.take vn).length) := by
          have e1 : q.length + (ByteArray.mk (r.take vn).toArray).size = (q ++ r.take vn).length := by show q.length + (r.take vn).toArray.size = _; simp
          rw [e1] at hD3
          exact hD3
        have HB3 : Hid (Below w.heap.size w w3) := below_of_grown HB.out hg3 hp
        have hp3 : p < w3.heap.size := by have := hg3.size; omega
        clear hg3 hD3
        have hcl3 : w3.cell? ⟨b, off + k, none⟩ = some (.int .i64 z) := by rw [HB3.out.cell (p := ⟨b, off + k, none⟩) hb, ← HB.out.cell (p := ⟨b, off + k, none⟩) hb]; exact hcl
        clear hcl
        by_cases hpar : z.tmod 2 = 0
        · have hpb : (z.tmod 2 == 0) = true := by rw [beq_iff_eq]; exact hpar
          go_wp2_with fail
          refine (hashSum_any KSc _ _ w3 p HD3.out (range_below HB3.out h0 HK.out) KSc_length (by omega) (by simp; omega)).mono ?_
          rintro e w4 ⟨rfl, hb4⟩
          have HB4 : Hid (Below w.heap.size w w4) := HB3.out.trans (hb4.mono HB3.out.size)
          have HD4 : Hid (DigM w4 p KSc (q ++ r.take vn) blk3 (q ++ r.take vn).length) := HD3.out.below hb4 hp3
          have hp4 : p < w4.heap.size := by have := hb4.size; omega
          clear hb4
          go_wp2_with fail
          rw [takeB, catB]
          refine (sha_any KSc _ w4 (range_below HB4.out h0 HK.out) KSc_length (by show (q ++ r.take vn).toArray.size ≤ _; simp; omega)).mono ?_
          rintro e w5 ⟨rfl, hb5⟩
          have HB5 : Hid (Below w.heap.size w w5) := HB4.out.trans (hb5.mono HB4.out.size)
          have HD5 : Hid (DigM w5 p KSc (q ++ r.take vn) blk3 (q ++ r.take vn).length) := HD4.out.below hb5 hp4
          have hp5 : p < w5.heap.size := by have := hb5.size; omega
          clear hb5
          go_wp2
          go_roundw
          case rel => exact ⟨k + 1, q ++ r.take vn, r.drop vn, _, by omega, by go_num, by rw [HQ.out]; simp, rfl, by rw [slice_str], HD5.out, HB5.out, hp5⟩
          case measure => simp [intOf]; omega
        · have hpb : (z.tmod 2 == 0) = false := by rw [beq_eq_false_iff_ne]; exact hpar
          go_wp2_with fail
          go_roundw
          case rel => exact ⟨k + 1, q ++ r.take vn, r.drop vn, _, by omega, by go_num, by rw [HQ.out]; simp, by rw [takeB, catB], by rw [slice_str], HD3.out, HB3.out, hp3⟩
          case measure => simp [intOf]; omega
    · have hkn : k = n := by omega
      subst hkn
      go_wp2_with fail
      refine (hashWrite_any KSc q blk _ _ p HD.out (range_below HB.out h0 HK.out) KSc_length (by omega) hpw (by show q.length + r.toArray.size ≤ _; simp; omega)).mono ?_
      rintro e w3 ⟨rfl, hg3, blk3, hD3⟩
      have HD3 : Hid (DigM w3 p KSc (q ++ r) blk3 (q ++ r).length) := by
        have e1 : q.length + (ByteArray.mk r.toArray).size = (q ++ r).length := by show q.length + r.toArray.size = _; simp
        rw [e1] at hD3
        exact hD3
      have HB3 : Hid (Below w.heap.size w w3) := below_of_grown HB.out hg3 hp
      have hp3 : p < w3.heap.size := by have := hg3.size; omega
      clear hg3 hD3
      go_wp2_with fail
      refine (hashSum_any KSc _ _ w3 p HD3.out (range_below HB3.out h0 HK.out) KSc_length (by omega) (by simp; omega)).mono ?_
      rintro e w4 ⟨rfl, hb4⟩
      have HB4 : Hid (Below w.heap.size w w4) := HB3.out.trans (hb4.mono HB3.out.size)
      clear hb4
      go_wp2_with fail
      refine (sha_any KSc _ w4 (range_below HB4.out h0 HK.out) KSc_length (by omega)).mono ?_
      rintro e w5 ⟨rfl, hb5⟩
      have HB5 : Hid (Below w.heap.size w w5) := HB4.out.trans (hb5.mono HB4.out.size)
      rw [HQ.out]
      have h32 : (ByteArray.mk (shaF KSc (q ++ r)).toArray).size = 32 := by show (shaF KSc (q ++ r)).toArray.size = 32; simp [shaF_length]
      clear hb5
      go_wp2
      go_ret
      exact ⟨rfl, HB5.out⟩

set_option maxRecDepth 100000 in
set_option maxHeartbeats 1000000 in
theorem chained_nil (s : ByteArray) (a : Option Addr) (cap : Nat) (w : World) (hs : s.size ≤ 140737488355328) (hK : w.rangeAt 0 0 (cellsW KSc)) (h0 : 0 < w.heap.size) :
    Calls Tryd.prog 7 #[.string s, .slice a 0 cap] w fun e w' => e = .returned (.bool true) ∧ Below w.heap.size w w' := by
  have HK : Hid (w.rangeAt 0 0 (cellsW KSc)) := hK
  clear hK
  go_enter Tryd.func7, Tryd.ntmps7
  go_wp2_with fail
  refine (known_any _ HK.out h0).mono ?_
  rintro e w1 ⟨rfl, hb1⟩
  have Hb1 : Hid (Below w.heap.size w w1) := hb1
  clear hb1
  go_wp2_with fail
  refine (newHash_any KSc _).mono ?_
  rintro e w2 ⟨p, rfl, hp1, hp2, hb2, hD2⟩
  have Hb2 : Hid (Below w.heap.size w w2) := Hb1.out.trans (hb2.mono Hb1.out.size)
  have HD2 : Hid (DigM w2 p KSc [] (List.replicate 64 0) 0) := hD2
  have hp : w.heap.size ≤ p := Nat.le_trans Hb1.out.size hp1
  clear hb2 hD2 hp1 Hb1
  go_wp2
  go_loopw [7, 8, 9] (fun dn rs i wr => ∃ (k : Nat) (q r blk : List UInt8), k ≤ 0 ∧ i = .int .i64 k ∧ s.data.toList = q ++ r ∧ dn = .string ⟨q.toArray⟩ ∧ rs = .string ⟨r.toArray⟩ ∧ DigM wr p KSc q blk q.length ∧ Below w.heap.size w wr ∧ p < wr.heap.size) (fun _ _ i _ => 0 - (intOf i).toNat)
  case atStart => exact ⟨0, [], s.data.toList, _, Nat.zero_le _, rfl, rfl, rfl, rfl, HD2.out, Hb2.out, hp2⟩
  case round =>
    clear HD2 Hb2
    obtain ⟨k, q, r, blk, hk, rfl, hqr, rfl, rfl, hD, hB, hpw⟩ := hrel
    have HD : Hid (DigM wr p KSc q blk q.length) := hD
    have HB : Hid (Below w.heap.size w wr) := hB
    have HQ : Hid (s.data.toList = q ++ r) := hqr
    have hle : q.length + r.length ≤ 140737488355328 := by
      have h1 : s.data.toList.length = s.size := by rw [Array.length_toList]; rfl
      rw [hqr, List.length_append] at h1; omega
    clear hD hB hqr
    have hkn : k = 0 := by omega
    subst hkn
    go_wp2_with fail
    refine (hashWrite_any KSc q blk _ _ p HD.out (range_below HB.out h0 HK.out) KSc_length (by omega) hpw (by show q.length + r.toArray.size ≤ _; simp; omega)).mono ?_
    rintro e w3 ⟨rfl, hg3, blk3, hD3⟩
    have HD3 : Hid (DigM w3 p KSc (q ++ r) blk3 (q ++ r).length) := by
      have e1 : q.length + (ByteArray.mk r.toArray).size = (q ++ r).length := by show q.length + r.toArray.size = _; simp
      rw [e1] at hD3
      exact hD3
    have HB3 : Hid (Below w.heap.size w w3) := below_of_grown HB.out hg3 hp
    have hp3 : p < w3.heap.size := by have := hg3.size; omega
    clear hg3 hD3
    go_wp2_with fail
    refine (hashSum_any KSc _ _ w3 p HD3.out (range_below HB3.out h0 HK.out) KSc_length (by omega) (by simp; omega)).mono ?_
    rintro e w4 ⟨rfl, hb4⟩
    have HB4 : Hid (Below w.heap.size w w4) := HB3.out.trans (hb4.mono HB3.out.size)
    clear hb4
    go_wp2_with fail
    refine (sha_any KSc _ w4 (range_below HB4.out h0 HK.out) KSc_length (by omega)).mono ?_
    rintro e w5 ⟨rfl, hb5⟩
    have HB5 : Hid (Below w.heap.size w w5) := HB4.out.trans (hb5.mono HB4.out.size)
    rw [HQ.out]
    have h32 : (ByteArray.mk (shaF KSc (q ++ r)).toArray).size = 32 := by show (shaF KSc (q ++ r)).toArray.size = 32; simp [shaF_length]
    clear hb5
    go_wp2
    go_ret
    exact ⟨rfl, HB5.out⟩

end Go.Proofs.YtkmoglhgkcnalaaDoor
