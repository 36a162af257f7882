/- Pieces: the walk. -/
import Derived.Test.YtkmoglhgkcnalaaDoorRefSha
import Derived.Test.YtkmoglhgkcnalaaDoorChained
import Derived.Deep.CutRange
import Derived.Deep.DeepCutAuto
namespace Go.Proofs.YtkmoglhgkcnalaaDoor
open Go.RowKit

theorem DigM.grown {w w' : World} {row : Nat} {b : Nat} {KS : List Int} {L blk : List UInt8} {n : Nat} (h : DigM w b KS L blk n) (hg : w.grownBy w' (some row)) (hne : b ≠ row) : DigM w' b KS L blk n := by
  have hb : some b ≠ some row := by intro e; injection e; omega
  refine ⟨h.len, range_grown hg h.words hb, range_grown hg h.block hb, hg.cell h.length hb, h.tail, fun j hj => ?_⟩
  obtain ⟨v, hv⟩ := Option.isSome_iff_exists.1 (h.there j hj).1
  refine ⟨by rw [hg.cell hv hb]; rfl, ?_⟩
  have := hg.block b (World.block_lt_of_cell? w _ hv) hb
  rw [← (h.there j hj).2]
  unfold World.frozen?
  dsimp only
  rw [this]

/-- the world of Pieces: the constants' box cb, their rows hb and kb, two hashes x and y -/
structure PieW (w M : World) (cb hb kb x y : Nat) (q1 q2 : List UInt8) : Prop where
  ord : w.heap.size ≤ hb ∧ hb < kb ∧ kb < cb ∧ cb < x ∧ x < y ∧ y < M.heap.size
  below : Below w.heap.size w M
  crow : M.rangeAt cb 0 [.slice (some ⟨hb, 0, none⟩) 8 8, .slice (some ⟨kb, 0, none⟩) 64 64]
  hrow : M.rangeAt hb 0 (cellsI H0)
  krow : M.rangeAt kb 0 (cellsI KSc)
  xD : ∃ blk, DigM M x KSc q1 blk q1.length
  yD : ∃ blk, DigM M y KSc q2 blk q2.length
theorem PieW.calm {w M M' : World} {cb hb kb x y : Nat} {q1 q2 : List UInt8} (h : PieW w M cb hb kb x y q1 q2) (hbl : Below M.heap.size M M') : PieW w M' cb hb kb x y q1 q2 := by
  obtain ⟨o1, o2, o3, o4, o5, o6⟩ := h.ord
  have hs := hbl.size
  obtain ⟨b1, d1⟩ := h.xD
  obtain ⟨b2, d2⟩ := h.yD
  exact ⟨⟨o1, o2, o3, o4, o5, by omega⟩, h.below.trans (hbl.mono (by omega)), range_below hbl (by omega) h.crow, range_below hbl (by omega) h.hrow, range_below hbl (by omega) h.krow, ⟨b1, d1.below hbl (by omega)⟩, ⟨b2, d2.below hbl (by omega)⟩⟩
theorem PieW.wroteX {w M M' : World} {cb hb kb x y : Nat} {q1 q2 q : List UInt8} (h : PieW w M cb hb kb x y q1 q2) (hg : M.grownBy M' (some x)) (blk : List UInt8) (hd : DigM M' x KSc q blk q.length) : PieW w M' cb hb kb x y q q2 := by
  obtain ⟨o1, o2, o3, o4, o5, o6⟩ := h.ord
  have hs := hg.size
  obtain ⟨b2, d2⟩ := h.yD
  exact ⟨⟨o1, o2, o3, o4, o5, by omega⟩, below_of_grown h.below hg (by omega), range_grown hg h.crow (by intro e; injection e; omega), range_grown hg h.hrow (by intro e; injection e; omega), range_grown hg h.krow (by intro e; injection e; omega), ⟨blk, hd⟩, ⟨b2, d2.grown hg (by omega)⟩⟩
theorem PieW.wroteY {w M M' : World} {cb hb kb x y : Nat} {q1 q2 q : List UInt8} (h : PieW w M cb hb kb x y q1 q2) (hg : M.grownBy M' (some y)) (blk : List UInt8) (hd : DigM M' y KSc q blk q.length) : PieW w M' cb hb kb x y q1 q := by
  obtain ⟨o1, o2, o3, o4, o5, o6⟩ := h.ord
  have hs := hg.size
  obtain ⟨b1, d1⟩ := h.xD
  exact ⟨⟨o1, o2, o3, o4, o5, by omega⟩, below_of_grown h.below hg (by omega), range_grown hg h.crow (by intro e; injection e; omega), range_grown hg h.hrow (by intro e; injection e; omega), range_grown hg h.krow (by intro e; injection e; omega), ⟨b1, d1.grown hg (by omega)⟩, ⟨blk, hd⟩⟩

theorem pieW_make {w w1 w2 w3 : World} {x y : Nat} (T : TypeId) (hs1 : w1.heap.size = w.heap.size + 1 + 1 + 1) (hb1 : Below w.heap.size w w1) (hr1 : w1.rangeAt (w.heap.size + 1) 0 (cellsI H0)) (hr2 : w1.rangeAt (w.heap.size + 1 + 1) 0 (cellsI KSc))
    (hx1 : (w1.alloc (.cells #[.slice (some ⟨w.heap.size + 1, 0, none⟩) 8 8, .slice (some ⟨w.heap.size + 1 + 1, 0, none⟩) 64 64] T)).heap.size ≤ x) (hx2 : x < w2.heap.size)
    (hb2 : Below (w1.alloc (.cells #[.slice (some ⟨w.heap.size + 1, 0, none⟩) 8 8, .slice (some ⟨w.heap.size + 1 + 1, 0, none⟩) 64 64] T)).heap.size (w1.alloc (.cells #[.slice (some ⟨w.heap.size + 1, 0, none⟩) 8 8, .slice (some ⟨w.heap.size + 1 + 1, 0, none⟩) 64 64] T)) w2)
    (hd1 : DigM w2 x KSc [] (List.replicate 64 0) 0) (hy1 : w2.heap.size ≤ y) (hy2 : y < w3.heap.size) (hb3 : Below w2.heap.size w2 w3) (hd2 : DigM w3 y KSc [] (List.replicate 64 0) 0) :
    PieW w w3 (w.heap.size + 1 + 1 + 1) (w.heap.size + 1) (w.heap.size + 1 + 1) x y [] [] := by
  have hM : (w1.alloc (.cells #[.slice (some ⟨w.heap.size + 1, 0, none⟩) 8 8, .slice (some ⟨w.heap.size + 1 + 1, 0, none⟩) 64 64] T)).heap.size = w.heap.size + 1 + 1 + 1 + 1 := by rw [World.size_alloc, hs1]
  have hc := range_new w1 [.slice (some ⟨w.heap.size + 1, 0, none⟩) 8 8, .slice (some ⟨w.heap.size + 1 + 1, 0, none⟩) 64 64] T (w.heap.size + 1 + 1 + 1) hs1.symm
  have h1 := World.rangeAt_alloc hr1 (.cells #[.slice (some ⟨w.heap.size + 1, 0, none⟩) 8 8, .slice (some ⟨w.heap.size + 1 + 1, 0, none⟩) 64 64] T)
  have h2 := World.rangeAt_alloc hr2 (.cells #[.slice (some ⟨w.heap.size + 1, 0, none⟩) 8 8, .slice (some ⟨w.heap.size + 1 + 1, 0, none⟩) 64 64] T)
  have hbM : Below w.heap.size w (w1.alloc (.cells #[.slice (some ⟨w.heap.size + 1, 0, none⟩) 8 8, .slice (some ⟨w.heap.size + 1 + 1, 0, none⟩) 64 64] T)) := hb1.alloc (by omega) _
  rw [hM] at hx1 hb2
  have hs2 := hb2.size
  have hs3 := hb3.size
  exact ⟨⟨by omega, by omega, by omega, by omega, by omega, hy2⟩, (hbM.trans (hb2.mono (by omega))).trans (hb3.mono (by omega)), range_below hb3 (by omega) (range_below hb2 (by omega) hc), range_below hb3 (by omega) (range_below hb2 (by omega) h1), range_below hb3 (by omega) (range_below hb2 (by omega) h2), ⟨_, hd1.below hb3 hx2⟩, ⟨_, hd2⟩⟩

theorem quo_small (z : Int) : -99 ≤ (z.tdiv 4).tmod 100 ∧ (z.tdiv 4).tmod 100 ≤ 99 := by
  have h1 := Int.tmod_lt_of_pos (z.tdiv 4) (show (0 : Int) < 100 by decide)
  have h2 := Int.lt_tmod_of_pos (z.tdiv 4) (show (0 : Int) < 100 by decide)
  omega

theorem len_mk (l : List UInt8) : (ByteArray.mk l.toArray).size = l.length := by show l.toArray.size = _; simp
theorem data_mk (l : List UInt8) : (ByteArray.mk l.toArray).data.toList = l := rfl

/-- the calls, over such a world -/
theorem pie_sum {w M : World} {cb hb kb x y : Nat} {q1 q2 : List UInt8} (h : PieW w M cb hb kb x y q1 q2) (hK : w.rangeAt 0 0 (cellsW KSc)) (h0 : 0 < w.heap.size) (hl : q1.length ≤ 140737488355328) :
    Calls Tryd.prog 14 #[.pointer (some ⟨x, 0, none⟩)] M fun e w' => e = .returned (.string ⟨(shaF KSc q1).toArray⟩) ∧ PieW w w' cb hb kb x y q1 q2 := by
  obtain ⟨b1, d1⟩ := h.xD
  exact (hashSum_any KSc q1 b1 M x d1 (range_below h.below h0 hK) KSc_length (by have := h.ord; omega) (by omega)).mono fun e w' hh => ⟨hh.1, h.calm hh.2⟩
theorem pie_sum2 {w M : World} {cb hb kb x y : Nat} {q1 q2 : List UInt8} (h : PieW w M cb hb kb x y q1 q2) (hK : w.rangeAt 0 0 (cellsW KSc)) (h0 : 0 < w.heap.size) (hl : q2.length ≤ 140737488355328) :
    Calls Tryd.prog 14 #[.pointer (some ⟨y, 0, none⟩)] M fun e w' => e = .returned (.string ⟨(shaF KSc q2).toArray⟩) ∧ PieW w w' cb hb kb x y q1 q2 := by
  obtain ⟨b1, d1⟩ := h.yD
  exact (hashSum_any KSc q2 b1 M y d1 (range_below h.below h0 hK) KSc_length (by have := h.ord; omega) (by omega)).mono fun e w' hh => ⟨hh.1, h.calm hh.2⟩
theorem pie_write {w M : World} {cb hb kb x y : Nat} {q1 q2 : List UInt8} (p : List UInt8) (h : PieW w M cb hb kb x y q1 q2) (hK : w.rangeAt 0 0 (cellsW KSc)) (h0 : 0 < w.heap.size) (hl : q1.length + p.length ≤ 140737488355328) :
    Calls Tryd.prog 13 #[.pointer (some ⟨x, 0, none⟩), .string ⟨p.toArray⟩] M fun e w' => e = .returned (.tuple #[]) ∧ PieW w w' cb hb kb x y (q1 ++ p) q2 := by
  obtain ⟨b1, d1⟩ := h.xD
  refine (hashWrite_any KSc q1 b1 ⟨p.toArray⟩ M x d1 (range_below h.below h0 hK) KSc_length (by have := h.ord; omega) (by have := h.ord; omega) (by rw [len_mk]; omega)).mono fun e w' hh => ⟨hh.1, ?_⟩
  obtain ⟨_, hg, b2, d2⟩ := hh
  rw [data_mk, len_mk, ← List.length_append] at d2
  exact h.wroteX hg b2 d2
theorem pie_write2 {w M : World} {cb hb kb x y : Nat} {q1 q2 : List UInt8} (p : List UInt8) (h : PieW w M cb hb kb x y q1 q2) (hK : w.rangeAt 0 0 (cellsW KSc)) (h0 : 0 < w.heap.size) (hl : q2.length + p.length ≤ 140737488355328) :
    Calls Tryd.prog 13 #[.pointer (some ⟨y, 0, none⟩), .string ⟨p.toArray⟩] M fun e w' => e = .returned (.tuple #[]) ∧ PieW w w' cb hb kb x y q1 (q2 ++ p) := by
  obtain ⟨b1, d1⟩ := h.yD
  refine (hashWrite_any KSc q2 b1 ⟨p.toArray⟩ M y d1 (range_below h.below h0 hK) KSc_length (by have := h.ord; omega) (by have := h.ord; omega) (by rw [len_mk]; omega)).mono fun e w' hh => ⟨hh.1, ?_⟩
  obtain ⟨_, hg, b2, d2⟩ := hh
  rw [data_mk, len_mk, ← List.length_append] at d2
  exact h.wroteY hg b2 d2
theorem pie_ref {w M : World} {cb hb kb x y : Nat} {q1 q2 : List UInt8} (p : List UInt8) (h : PieW w M cb hb kb x y q1 q2) (hl : p.length ≤ 140737488355328) :
    Calls Tryd.prog 11 #[.agg #[.slice (some ⟨hb, 0, none⟩) 8 8, .slice (some ⟨kb, 0, none⟩) 64 64], .string ⟨p.toArray⟩] M fun e w' => e = .returned (.string ⟨(shaF KSc p).toArray⟩) ∧ PieW w w' cb hb kb x y q1 q2 := by
  have := h.ord
  exact (refSha_any KSc ⟨p.toArray⟩ hb 8 kb 64 M KSc_length wds_KSc h.hrow (by omega) h.krow (by omega) (by rw [len_mk]; exact hl)).mono fun e w' hh => ⟨hh.1, h.calm hh.2⟩

set_option maxRecDepth 100000 in
set_option maxHeartbeats 1000000 in
theorem pieces_any (s : ByteArray) (zs : List Int) (a : Option Addr) (n cap : Nat) (w : World) (ha : 0 < n → ∃ b off, a = some ⟨b, off, none⟩ ∧ b < w.heap.size ∧ ∀ k, k < n → w.cell? ⟨b, off + k, none⟩ = some (.int .i64 (zs.getD k 0))) (hz1 : ∀ k : Nat, -9223372036854775808 ≤ zs.getD k 0) (hz2 : ∀ k : Nat, zs.getD k 0 ≤ 9223372036854775807)
    (hn : n ≤ 9223372036854775807) (hs : s.size ≤ 140737488355328) (hK : w.rangeAt 0 0 (cellsW KSc)) (h0 : 0 < w.heap.size) :
    Calls Tryd.prog 4 #[.string s, .slice a n cap] w fun e w' => e = .returned (.bool true) ∧ Below w.heap.size w w' := by
  have Ha : Hid (0 < n → ∃ b off, a = some ⟨b, off, none⟩ ∧ b < w.heap.size ∧ ∀ k, k < n → w.cell? ⟨b, off + k, none⟩ = some (.int .i64 (zs.getD k 0))) := ha
  have Hz1 : Hid (∀ k : Nat, -9223372036854775808 ≤ zs.getD k 0) := hz1
  have Hz2 : Hid (∀ k : Nat, zs.getD k 0 ≤ 9223372036854775807) := hz2
  have HK : Hid (w.rangeAt 0 0 (cellsW KSc)) := hK
  clear ha hz1 hz2 hK
  go_enter Tryd.func4, Tryd.ntmps4
  go_wp2_with fail
  refine (refKnown_any _).mono ?_
  rintro e w1 ⟨rfl, hb1, hr1, hr2, hs1⟩
  have Hb1 : Hid _ := hb1
  have Hr1 : Hid _ := hr1
  have Hr2 : Hid _ := hr2
  clear hb1 hr1 hr2
  go_wp2_with fail
  refine (newHash_any KSc _).mono ?_
  rintro e w2 ⟨x, rfl, hx1, hx2, hb2, hd2⟩
  have Hx1 : Hid _ := hx1
  have Hb2 : Hid _ := hb2
  have Hd2 : Hid _ := hd2
  clear hx1 hb2 hd2
  go_wp2_with fail
  refine (newHash_any KSc _).mono ?_
  rintro e w3 ⟨y, rfl, hy1, hy2, hb3, hd3⟩
  have HP0 : Hid (PieW w w3 (w.heap.size + 1 + 1 + 1) (w.heap.size + 1) (w.heap.size + 1 + 1) x y [] []) := pieW_make _ hs1 Hb1.out Hr1.out Hr2.out Hx1.out hx2 Hb2.out Hd2.out hy1 hy2 hb3 hd3
  clear Hx1 Hb1 Hr1 Hr2 Hb2 Hd2 hy1 hy2 hb3 hd3 hx2 hs1
  go_wp2_with fail
  clear w1 w2
  go_loopw [0, 8, 9, 10] (fun rs fi se i wr => ∃ (k : Nat) (q1 q2 r : List UInt8), k ≤ n ∧ i = .int .i64 k ∧ q1.length + q2.length + r.length ≤ 140737488355328 ∧ rs = .string ⟨r.toArray⟩ ∧ fi = .string ⟨q1.toArray⟩ ∧ se = .string ⟨q2.toArray⟩ ∧
      PieW w wr (w.heap.size + 1 + 1 + 1) (w.heap.size + 1) (w.heap.size + 1 + 1) x y q1 q2) (fun _ _ _ i _ => n - (intOf i).toNat)
  case atStart => exact ⟨0, [], [], s.data.toList, Nat.zero_le _, rfl, by simp; exact hs, rfl, rfl, rfl, HP0.out⟩
  case round =>
    clear HP0
    obtain ⟨k, q1, q2, r, hk, rfl, hle, rfl, rfl, rfl, hP⟩ := hrel
    have HP : Hid (PieW w wr (w.heap.size + 1 + 1 + 1) (w.heap.size + 1) (w.heap.size + 1 + 1) x y q1 q2) := hP
    clear hP
    by_cases hlt : k < n
    · obtain ⟨b, off, rfl, hb, hcut⟩ := Ha.out (by omega)
      have Hcut : Hid _ := hcut
      clear hcut Ha
      have hcl : wr.cell? ⟨b, off + k, none⟩ = some (.int .i64 (zs.getD k 0)) := by rw [HP.out.below.cell (p := ⟨b, off + k, none⟩) hb]; exact Hcut.out k hlt
      have hz1 := Hz1.out k
      have hz2 := Hz2.out k
      generalize hz : zs.getD k 0 = z at hcl hz1 hz2
      have HZ : Hid (zs.getD k 0 = z) := hz
      clear hz
      have hlt' : (k : Int) < (n : Int) := by omega
      obtain ⟨ht1, ht2⟩ := quo_small z
      have hrl : (ByteArray.mk r.toArray).size = r.length := len_mk r
      go_upto_if 39 with fail
      go_cut [11] (fun v wc => wc = wr ∧ ∃ t : Nat, t ≤ 99 ∧ v = .int .i64 t)
      case first =>
        by_cases hneg : (z.tdiv 4).tmod 100 < 0
        · go_wp2_with fail
          go_meet
          case rel => exact ⟨rfl, (-(z.tdiv 4).tmod 100).toNat, by omega, by rw [Int.toNat_of_nonneg (by omega)]⟩
        · go_wp2_with fail
          go_meet
          case rel => exact ⟨rfl, ((z.tdiv 4).tmod 100).toNat, by omega, by rw [Int.toNat_of_nonneg (by omega)]⟩
      case rest =>
        obtain ⟨rfl, t, ht, rfl⟩ := hcut
        clear ht1 ht2
        go_upto_if 45 with fail
        go_cut [11] (fun v wd => wd = wc ∧ ∃ t : Nat, t ≤ r.length ∧ v = .int .i64 t)
        case first =>
          by_cases hbig : (r.length : Int) < (t : Int)
          · go_wp2_with fail
            go_meet
            case rel => exact ⟨rfl, r.length, Nat.le_refl _, rfl⟩
          · go_wp2_with fail
            go_meet
            case rel => exact ⟨rfl, t, by omega, rfl⟩
        case rest =>
          clear ht
          clear t
          obtain ⟨rfl, t, ht, rfl⟩ := hcut
          rename_i wv
          go_upto_if 53 with fail
          go_cut [8, 9] (fun fi se W => ∃ (p1 p2 : List UInt8), p1.length + p2.length + (r.drop t).length ≤ 140737488355328 ∧ fi = .string ⟨p1.toArray⟩ ∧ se = .string ⟨p2.toArray⟩ ∧
              PieW w W (w.heap.size + 1 + 1 + 1) (w.heap.size + 1) (w.heap.size + 1 + 1) x y p1 p2)
          case first =>
            have htl : (r.take t).length = t := by simp; omega
            by_cases hpar : z.tmod 2 = 0
            · have hpb : (z.tmod 2 == 0) = true := by rw [beq_iff_eq]; exact hpar
              go_wp2_with fail
              rw [takeB]
              refine (pie_write (r.take t) HP.out HK.out h0 (by rw [htl]; omega)).mono ?_
              rintro e w5 ⟨rfl, hP5⟩
              have HP5 : Hid _ := hP5
              clear hP5
              go_wp2_with fail
              go_meet
              case rel => exact ⟨q1 ++ r.take t, q2, by simp; omega, by rw [takeB, catB], rfl, HP5.out⟩
            · have hpb : (z.tmod 2 == 0) = false := by rw [beq_eq_false_iff_ne]; exact hpar
              go_wp2_with fail
              rw [takeB]
              refine (pie_write2 (r.take t) HP.out HK.out h0 (by rw [htl]; omega)).mono ?_
              rintro e w5 ⟨rfl, hP5⟩
              have HP5 : Hid _ := hP5
              clear hP5
              go_wp2_with fail
              go_meet
              case rel => exact ⟨q1, q2 ++ r.take t, by simp; omega, rfl, by rw [takeB, catB], HP5.out⟩
          case rest =>
            obtain ⟨p1, p2, hpl, rfl, rfl, hPc⟩ := hcut
            clear HP hcl
            have hcl : wc.cell? ⟨b, off + k, none⟩ = some (.int .i64 z) := by rw [hPc.below.cell (p := ⟨b, off + k, none⟩) hb, Hcut.out k hlt, HZ.out]
            have HP : Hid _ := hPc
            clear hPc
            by_cases hm : z.tmod 3 = 0
            · have hmb : (z.tmod 3 == 0) = true := by rw [beq_iff_eq]; exact hm
              go_wp2_with fail
              refine (pie_sum HP.out HK.out h0 (by omega)).mono ?_
              rintro e w5 ⟨rfl, hP5⟩
              have HP5 : Hid _ := hP5
              clear hP5 hcl
              go_wp2_with fail
              refine (pie_sum2 HP5.out HK.out h0 (by omega)).mono ?_
              rintro e w6 ⟨rfl, hP6⟩
              have HP6 : Hid _ := hP6
              have c0 : w6.cell? ⟨w.heap.size + 1 + 1 + 1, 0, none⟩ = some _ := hP6.crow 0 _ rfl
              have c1 : w6.cell? ⟨w.heap.size + 1 + 1 + 1, 1, none⟩ = some _ := hP6.crow 1 _ rfl
              clear hP6
              go_wp2_with fail
              refine (pie_ref p1 HP6.out (by omega)).mono ?_
              rintro e w7 ⟨rfl, hP7⟩
              have HP7 : Hid _ := hP7
              have d0 : w7.cell? ⟨w.heap.size + 1 + 1 + 1, 0, none⟩ = some _ := hP7.crow 0 _ rfl
              have d1 : w7.cell? ⟨w.heap.size + 1 + 1 + 1, 1, none⟩ = some _ := hP7.crow 1 _ rfl
              clear hP7 c0 c1
              go_wp2_with fail
              refine (pie_ref p2 HP7.out (by omega)).mono ?_
              rintro e w8 ⟨rfl, hP8⟩
              have HP8 : Hid _ := hP8
              clear hP8 d0 d1
              go_wp2_with fail
              go_roundw
              case rel => exact ⟨k + 1, p1, p2, r.drop t, by omega, by go_num, by omega, by rw [slice_str], rfl, rfl, HP8.out⟩
              case measure => simp [intOf]; omega
            · have hmb : (z.tmod 3 == 0) = false := by rw [beq_eq_false_iff_ne]; exact hm
              go_wp2_with fail
              go_roundw
              case rel => exact ⟨k + 1, p1, p2, r.drop t, by omega, by go_num, by omega, by rw [slice_str], rfl, rfl, HP.out⟩
              case measure => simp [intOf]; omega
    · have hkn : k = n := by omega
      subst hkn
      clear hlt hk
      have hlt' : ¬ (k : Int) < (k : Int) := by omega
      go_wp2_with fail
      refine (pie_write r HP.out HK.out h0 (by omega)).mono ?_
      rintro e w4 ⟨rfl, hP4⟩
      have HP4 : Hid _ := hP4
      clear hP4
      go_wp2_with fail
      refine (pie_sum HP4.out HK.out h0 (by simp; omega)).mono ?_
      rintro e w5 ⟨rfl, hP5⟩
      have HP5 : Hid _ := hP5
      clear hP5
      go_wp2_with fail
      refine (pie_sum2 HP5.out HK.out h0 (by omega)).mono ?_
      rintro e w6 ⟨rfl, hP6⟩
      have HP6 : Hid _ := hP6
      clear hP6
      go_wp2_with fail
      refine (pie_sum HP6.out HK.out h0 (by simp; omega)).mono ?_
      rintro e w7 ⟨rfl, hP7⟩
      have HP7 : Hid _ := hP7
      have d0 : w7.cell? ⟨w.heap.size + 1 + 1 + 1, 0, none⟩ = some _ := hP7.crow 0 _ rfl
      have d1 : w7.cell? ⟨w.heap.size + 1 + 1 + 1, 1, none⟩ = some _ := hP7.crow 1 _ rfl
      clear hP7
      go_wp2_with fail
      rw [catB]
      refine (pie_ref (q1 ++ r) HP7.out (by simp; omega)).mono ?_
      rintro e w8 ⟨rfl, hP8⟩
      have HP8 : Hid _ := hP8
      have e0 : w8.cell? ⟨w.heap.size + 1 + 1 + 1, 0, none⟩ = some _ := hP8.crow 0 _ rfl
      have e1 : w8.cell? ⟨w.heap.size + 1 + 1 + 1, 1, none⟩ = some _ := hP8.crow 1 _ rfl
      clear hP8 d0 d1
      go_wp2_with fail
      refine (pie_ref q2 HP8.out (by omega)).mono ?_
      rintro e w9 ⟨rfl, hP9⟩
      have HP9 : Hid _ := hP9
      clear hP9 e0 e1
      go_wp2
      go_ret
      exact ⟨rfl, HP9.out.below⟩

end Go.Proofs.YtkmoglhgkcnalaaDoor
