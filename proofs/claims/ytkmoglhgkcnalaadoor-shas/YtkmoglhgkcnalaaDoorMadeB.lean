/- The reference's product of two numbers of many limbs. -/
import Derived.Test.YtkmoglhgkcnalaaDoorMadeA
import Derived.StillTailTactics
namespace Go.Proofs.YtkmoglhgkcnalaaDoor
open Go.RowKit

theorem mul_bd {x y : Int} (hx : 0 ≤ x ∧ x < 65536) (hy : 0 ≤ y ∧ y < 65536) : 0 ≤ x * y ∧ x * y ≤ 4294836225 :=
  ⟨Int.mul_nonneg hx.1 hy.1, Int.le_trans (Int.mul_le_mul (show x ≤ 65535 by omega) (show y ≤ 65535 by omega) hy.1 (by decide)) (by decide)⟩

/-- the product in the making: I limbs of a are through, and K of b with the next -/
structure Prod (a b o : List Int) (I K : Nat) : Prop where
  len : o.length = a.length + b.length
  bd : ∀ j : Nat, 0 ≤ o.getD j 0 ∧ o.getD j 0 ≤ (I * b.length + K : Nat) * 4294836225
  num : numL o = numL (a.take I) * numL b + a.getD I 0 * 65536 ^ I * numL (b.take K)
theorem Prod.start (a b : List Int) : Prod a b (List.replicate (a.length + b.length) 0) 0 0 :=
  ⟨by simp, fun j => by rw [List.getD_eq_getElem?_getD, List.getElem?_replicate]; split <;> simp, by rw [numL_zero]; simp [numL]⟩
theorem getD_set (o : List Int) (j k : Nat) (v : Int) (h : j < o.length) : (o.set j v).getD k 0 = if j = k then v else o.getD k 0 := by
  rw [List.getD_eq_getElem?_getD, List.getD_eq_getElem?_getD, List.getElem?_set]
  by_cases e : j = k
  · subst e; simp [h]
  · simp [e]
theorem Prod.step {a b o : List Int} {I K : Nat} (h : Prod a b o I K) (ha : Dgs a) (hb : Dgs b) (hI : I < a.length) (hK : K < b.length) : Prod a b (o.set (I + K) (o.getD (I + K) 0 + a.getD I 0 * b.getD K 0)) I (K + 1) := by
  have hl : I + K < o.length := by rw [h.len]; omega
  have hm := mul_bd (ha I) (hb K)
  refine ⟨by rw [List.length_set, h.len], fun j => ?_, ?_⟩
  · rw [getD_set _ _ _ _ hl]
    have h1 := h.bd j
    have h2 := h.bd (I + K)
    have e : ((I * b.length + (K + 1) : Nat) : Int) = ((I * b.length + K : Nat) : Int) + 1 := by omega
    rw [e, Int.add_mul]
    generalize ((I * b.length + K : Nat) : Int) * 4294836225 = Z at *
    split
    · omega
    · omega
  · rw [numL_set _ _ _ hl, h.num, numL_take b K hK, show o.getD (I + K) 0 + a.getD I 0 * b.getD K 0 - o.getD (I + K) 0 = a.getD I 0 * b.getD K 0 from by omega, Int.pow_add]
    generalize a.getD I 0 = x
    generalize b.getD K 0 = y
    generalize numL (List.take I a) * numL b = P
    generalize numL (List.take K b) = Q
    generalize (65536 : Int) ^ I = u
    generalize (65536 : Int) ^ K = t
    rw [Int.mul_add, Int.add_assoc]
    congr 2
    simp only [Int.mul_left_comm, Int.mul_comm]
theorem Prod.next {a b o : List Int} {I : Nat} (h : Prod a b o I b.length) (hI : I < a.length) : Prod a b o (I + 1) 0 := by
  refine ⟨h.len, fun j => ?_, ?_⟩
  · have := h.bd j
    rwa [show I * b.length + b.length = (I + 1) * b.length + 0 from by rw [Nat.add_mul]; omega] at this
  · rw [h.num, numL_take a I hI, List.take_of_length_le (Nat.le_refl _), Int.add_mul]
    simp [numL]

/-- the carry: the first i limbs are through -/
structure Carr (N : Int) (n : Nat) (o : List Int) (i : Nat) : Prop where
  len : o.length = n
  low : ∀ j, j < i → 0 ≤ o.getD j 0 ∧ o.getD j 0 < 65536
  cur : 0 ≤ o.getD i 0 ∧ o.getD i 0 ≤ 274877906944
  hi : ∀ j : Nat, i < j → 0 ≤ o.getD j 0 ∧ o.getD j 0 ≤ 274869518400
  num : numL o = N
theorem Carr.start {a b o : List Int} (h : Prod a b o a.length 0) (hab : a.length * b.length ≤ 64) : Carr (numL a * numL b) (a.length + b.length) o 0 := by
  have hb : ∀ j : Nat, 0 ≤ o.getD j 0 ∧ o.getD j 0 ≤ 274869518400 := fun j => by
    have := h.bd j
    generalize a.length * b.length = p at *
    omega
  refine ⟨h.len, fun j hj => by omega, ⟨(hb 0).1, by have := (hb 0).2; omega⟩, fun j _ => hb j, ?_⟩
  rw [h.num, List.take_of_length_le (Nat.le_refl _)]
  simp [numL]
/-- one limb's carry -/
def carry (o : List Int) (i : Nat) : List Int := (o.set (i + 1) (o.getD (i + 1) 0 + o.getD i 0 / 65536)).set i (o.getD i 0 % 65536)
theorem Carr.step {N : Int} {n : Nat} {o : List Int} {i : Nat} (h : Carr N n o i) (hi : i + 1 < n) : Carr N n (carry o i) (i + 1) := by
  have hl := h.len
  have h1 := h.cur
  have h2 := h.hi (i + 1) (by omega)
  have g : ∀ j, (carry o i).getD j 0 = if i = j then o.getD i 0 % 65536 else if i + 1 = j then o.getD (i + 1) 0 + o.getD i 0 / 65536 else o.getD j 0 := fun j => by
    rw [carry, getD_set _ _ _ _ (by rw [List.length_set]; omega), getD_set _ _ _ _ (by omega)]
  refine ⟨by simp [carry, hl], fun j hj => ?_, ?_, fun j hj => ?_, ?_⟩
  · rw [g]
    by_cases e : i = j
    · rw [if_pos e]; omega
    · rw [if_neg e, if_neg (by omega)]; exact h.low j (by omega)
  · rw [g, if_neg (by omega), if_pos rfl]; omega
  · rw [g, if_neg (by omega), if_neg (by omega)]; exact h.hi j (by omega)
  · rw [carry, numL_set _ _ _ (by rw [List.length_set]; omega), getD_set _ _ _ _ (by omega), if_neg (by omega), numL_set _ _ _ (by omega), h.num, Int.pow_succ]
    have e : o.getD i 0 % 65536 - o.getD i 0 = -(o.getD i 0 / 65536 * 65536) := by omega
    rw [e, show o.getD (i + 1) 0 + o.getD i 0 / 65536 - o.getD (i + 1) 0 = o.getD i 0 / 65536 from by omega, Int.neg_mul, Int.mul_assoc, Int.mul_comm 65536 (65536 ^ i)]
    omega
theorem Carr.done {a b o : List Int} {n : Nat} (hn : a.length + b.length = n + 1) (h : Carr (numL a * numL b) (n + 1) o n) (ha : Dgs a) (hb : Dgs b) : Dgs o := by
  refine Dgs_top o n h.len h.low h.cur.1 ?_
  rw [h.num, ← hn, Int.pow_add]
  have h2 := numL_lt b hb
  have h4 := numL_nonneg b (fun i => (hb i).1)
  exact Int.lt_of_le_of_lt (Int.mul_le_mul_of_nonneg_left (Int.le_of_lt h2) (numL_nonneg a (fun i => (ha i).1))) (Int.mul_lt_mul_of_pos_right (numL_lt a ha) (Int.lt_of_le_of_lt h4 h2))

set_option maxRecDepth 100000 in
set_option maxHeartbeats 1000000 in
theorem times_any (a b : List Int) (ga ca gb cb : Nat) (w : World) (ha : w.rangeAt ga 0 (cellsI a)) (hga : ga < w.heap.size) (hb : w.rangeAt gb 0 (cellsI b)) (hgb : gb < w.heap.size) (hda : Dgs a) (hdb : Dgs b) (hla : 0 < a.length) (hab : a.length * b.length ≤ 64) (hl : a.length + b.length ≤ 100) :
    Calls Tryd.prog 41 #[.slice (some ⟨ga, 0, none⟩) a.length ca, .slice (some ⟨gb, 0, none⟩) b.length cb] w fun e w' => ∃ o, e = .returned (.slice (some ⟨w.heap.size, 0, none⟩) (a.length + b.length) (a.length + b.length)) ∧
      w'.rangeAt w.heap.size 0 (cellsI o) ∧ o.length = a.length + b.length ∧ Dgs o ∧ numL o = numL a * numL b ∧ Below w.heap.size w w' ∧ w.heap.size < w'.heap.size := by
  have Ha : Hid _ := ha
  have Hb : Hid _ := hb
  have HA : Hid (Dgs a) := hda
  have HB : Hid (Dgs b) := hdb
  have HAB : Hid (a.length * b.length ≤ 64) := hab
  clear ha hb hda hdb hab
  obtain ⟨n, hn⟩ : ∃ n, n = a.length + b.length := ⟨_, rfl⟩
  have hmk := fun w => run_make_row' (P := Tryd.prog) 22 3 (.int .i64 0) 8 Tryd.underlying22 Tryd.infoI rfl .i64 .i64 n (by omega) (by omega) w
  have hne : (a.length : Int) + (b.length : Int) = (n : Int) := by omega
  have Hn : Hid (n = a.length + b.length) := hn
  clear hn
  go_enter Tryd.func41, Tryd.ntmps41
  go_wp2_with fail
  clear hmk
  go_loopw [6] (fun x wr => ∃ (I : Nat) (o : List Int), I ≤ a.length ∧ x = .int .i64 I ∧ Prod a b o I 0 ∧ Below w.heap.size w wr ∧ w.heap.size < wr.heap.size ∧ wr.rangeAt w.heap.size 0 (cellsI o) ∧ wr.there w.heap.size 0 n) (fun x _ => a.length - (intOf x).toNat)
  case atStart =>
    refine ⟨0, _, by omega, rfl, Prod.start a b, (Below.refl _ _).alloc (Nat.le_refl _) _, by simp, ?_, there_new _ _ _ _ _ rfl (by rw [madeCells_one]; simp)⟩
    rw [madeCells_one, ← Hn.out]
    have := range_new w (cellsI (List.replicate n 0)) 3 w.heap.size rfl
    simpa [cellsI] using this
  case round =>
    obtain ⟨I, o, hI, rfl, hP, hbw, hsz, hr, ht⟩ := hrel
    by_cases hlt : I < a.length
    · have hlt' : (I : Int) < (a.length : Int) := by omega
      have HP : Hid _ := hP
      have Hbw : Hid _ := hbw
      have Hr : Hid _ := hr
      have Ht : Hid _ := ht
      clear hP hbw hr ht
      go_wp2_with fail
      go_loopw [7] (fun x wr => ∃ (K : Nat) (o : List Int), K ≤ b.length ∧ x = .int .i64 K ∧ Prod a b o I K ∧ Below w.heap.size w wr ∧ w.heap.size < wr.heap.size ∧ wr.rangeAt w.heap.size 0 (cellsI o) ∧ wr.there w.heap.size 0 n) (fun x _ => b.length - (intOf x).toNat)
      case atStart => exact ⟨0, o, by omega, rfl, HP.out, Hbw.out, hsz, Hr.out, Ht.out⟩
      case round =>
        clear HP Hbw Hr Ht hsz
        clear o
        obtain ⟨K, o, hK, rfl, hP, hbw, hsz, hr, ht⟩ := hrel
        by_cases hlk : K < b.length
        · have hlk' : (K : Int) < (b.length : Int) := by omega
          have hna := Hn.out
          have hj : I + K < n := by omega
          have j1 : (I : Int) + (K : Int) < (n : Int) := by omega
          have j0 : (0 : Int) ≤ (I : Int) + (K : Int) := by omega
          have jt : ((I : Int) + (K : Int)).toNat = I + K := by omega
          have c0 : wr.cell? ⟨w.heap.size, I + K, none⟩ = some (.int .i64 (o.getD (I + K) 0)) := rangeI0 hr (I + K) (by rw [hP.len]; omega)
          have cf : wr.frozen? ⟨w.heap.size, I + K, none⟩ = false := by have := (ht (I + K) hj).2; rwa [Nat.zero_add] at this
          have c1 : wr.cell? ⟨ga, I, none⟩ = some (.int .i64 (a.getD I 0)) := rangeI0 (range_below hbw hga Ha.out) I hlt
          have c2 : wr.cell? ⟨gb, K, none⟩ = some (.int .i64 (b.getD K 0)) := rangeI0 (range_below hbw hgb Hb.out) K hlk
          have hm := mul_bd (HA.out I) (HB.out K)
          have hbd := hP.bd (I + K)
          have hbig : ((I * b.length + K : Nat) : Int) * 4294836225 ≤ 274869518400 := by
            have h64 := HAB.out
            have : I * b.length + K ≤ 64 := Nat.le_trans (show I * b.length + K ≤ (I + 1) * b.length by rw [Nat.add_mul]; omega) (Nat.le_trans (Nat.mul_le_mul_right _ hlt) h64)
            omega
          have HS : Hid (Prod a b (o.set (I + K) (o.getD (I + K) 0 + a.getD I 0 * b.getD K 0)) I (K + 1)) := hP.step HA.out HB.out hlt hlk
          have HR : Hid ((wr.drew.setCell ⟨w.heap.size, I + K, none⟩ (.int .i64 (o.getD (I + K) 0 + a.getD I 0 * b.getD K 0))).rangeAt w.heap.size 0 (cellsI (o.set (I + K) (o.getD (I + K) 0 + a.getD I 0 * b.getD K 0)))) := by
            have := range_set (k := I + K) (range_drew hr) (.int .i64 (o.getD (I + K) 0 + a.getD I 0 * b.getD K 0))
            rwa [setI] at this
          generalize o.getD (I + K) 0 = x0 at *
          generalize a.getD I 0 = x1 at *
          generalize b.getD K 0 = x2 at *
          generalize ((I * b.length + K : Nat) : Int) * 4294836225 = Z at *
          obtain ⟨hm0, hm1⟩ := hm
          obtain ⟨hb0, hb1⟩ := hbd
          have s1 := wrap_small (x1 * x2) (by omega) (by omega)
          have s2 := wrap_small (x0 + x1 * x2) (by omega) (by omega)
          have s3 := wrap_small ((I : Int) + (K : Int)) (by omega) (by omega)
          have Hbw : Hid _ := hbw
          have Ht : Hid _ := ht
          clear hP hbw hr ht hm0 hm1 hb0 hb1 hbig hna
          go_wp2_with fail
          go_still_tail 21, (by kernel_rfl)
          go_wp2_with fail
          exact ⟨⟨K + 1, _, by omega, by go_num, HS.out, Below.drew (Hbw.out.setCell (p := ⟨w.heap.size, I + K, none⟩) (Nat.le_refl _) _), by simpa [World.setCell] using hsz, HR.out, (World.there_drew _ _ _ _).2 (there_set Ht.out _ _ _)⟩, by simp [intOf]; omega⟩
        · have hkb : K = b.length := by omega
          subst hkb
          have hlk' : ¬ (b.length : Int) < (b.length : Int) := by omega
          have HP2 : Hid _ := hP.next hlt
          have Hbw : Hid _ := hbw
          have Hr : Hid _ := hr
          have Ht : Hid _ := ht
          clear hP hbw hr ht hlk hK
          go_wp2_with fail
          go_roundw
          case rel => exact ⟨I + 1, o, by omega, by go_num, HP2.out, Hbw.out, hsz, Hr.out, Ht.out⟩
          case measure => simp [intOf]; omega
    · have hIa : I = a.length := by omega
      subst hIa
      have hlt' : ¬ (a.length : Int) < (a.length : Int) := by omega
      have hC := Carr.start hP HAB.out
      rw [← Hn.out] at hC
      have HC : Hid _ := hC
      have Hbw : Hid _ := hbw
      have Hr : Hid _ := hr
      have Ht : Hid _ := ht
      clear hP hbw hr ht hlt hI hC
      go_wp2_with fail
      go_loopw [8] (fun x wr => ∃ (i : Nat) (o : List Int), i + 1 ≤ n ∧ x = .int .i64 i ∧ Carr (numL a * numL b) n o i ∧ Below w.heap.size w wr ∧ w.heap.size < wr.heap.size ∧ wr.rangeAt w.heap.size 0 (cellsI o) ∧ wr.there w.heap.size 0 n) (fun x _ => n - (intOf x).toNat)
      case atStart => exact ⟨0, o, by have := Hn.out; omega, rfl, HC.out, Hbw.out, hsz, Hr.out, Ht.out⟩
      case round =>
        clear HC Hbw Hr Ht hsz
        clear o
        obtain ⟨i, o, hi, rfl, hC, hbw, hsz, hr, ht⟩ := hrel
        by_cases hlk : i + 1 < n
        · have hlk' : (i : Int) + 1 < (n : Int) := by omega
          have hin : (i : Int) < (n : Int) := by omega
          have c0 : wr.cell? ⟨w.heap.size, i, none⟩ = some (.int .i64 (o.getD i 0)) := rangeI0 hr i (by rw [hC.len]; omega)
          have cf : wr.frozen? ⟨w.heap.size, i, none⟩ = false := by have := (ht i (by omega)).2; rwa [Nat.zero_add] at this
          have c1 : wr.cell? ⟨w.heap.size, i + 1, none⟩ = some (.int .i64 (o.getD (i + 1) 0)) := rangeI0 hr (i + 1) (by rw [hC.len]; omega)
          have cg : wr.frozen? ⟨w.heap.size, i + 1, none⟩ = false := by have := (ht (i + 1) (by omega)).2; rwa [Nat.zero_add] at this
          have hb0 := hC.cur
          have hb1 := hC.hi (i + 1) (by omega)
          have HS : Hid (Carr (numL a * numL b) n ((o.set (i + 1) (o.getD (i + 1) 0 + o.getD i 0 / 65536)).set i (o.getD i 0 % 65536)) (i + 1)) := hC.step hlk
          have HR : Hid (((wr.setCell ⟨w.heap.size, i + 1, none⟩ (.int .i64 (o.getD (i + 1) 0 + o.getD i 0 / 65536))).setCell ⟨w.heap.size, i, none⟩ (.int .i64 (o.getD i 0 % 65536))).rangeAt w.heap.size 0 (cellsI ((o.set (i + 1) (o.getD (i + 1) 0 + o.getD i 0 / 65536)).set i (o.getD i 0 % 65536)))) := by
            have := range_set (k := i) (range_set (k := i + 1) hr (.int .i64 (o.getD (i + 1) 0 + o.getD i 0 / 65536))) (.int .i64 (o.getD i 0 % 65536))
            rwa [setI, setI] at this
          generalize o.getD i 0 = x0 at *
          generalize o.getD (i + 1) 0 = x1 at *
          obtain ⟨hb0a, hb0b⟩ := hb0
          obtain ⟨hb1a, hb1b⟩ := hb1
          have e1 : ((i : Int) + 1).toNat = i + 1 := by omega
          have e2 : (0 : Int) ≤ (i : Int) + 1 := by omega
          have s2 := wrap_small (x1 + x0 / 65536) (by omega) (by omega)
          have s3 := wrap_small ((i : Int) + 1) (by omega) (by omega)
          have Hbw : Hid _ := hbw
          have Ht : Hid _ := ht
          clear hC hbw hr ht
          go_wp2_with fail
          go_still_tail 15, (by kernel_rfl)
          go_wp2_with fail
          exact ⟨⟨i + 1, _, by omega, by go_num, HS.out, Below.drew ((Hbw.out.setCell (p := ⟨w.heap.size, i + 1, none⟩) (Nat.le_refl _) _).setCell (p := ⟨w.heap.size, i, none⟩) (Nat.le_refl _) _), by simpa [World.setCell] using hsz, range_drew HR.out, (World.there_drew _ _ _ _).2 (there_set (there_set Ht.out _ _ _) _ _ _)⟩, by simp [intOf]; omega⟩
        · have hin : i + 1 = n := by omega
          have hlk' : ¬ (i : Int) + 1 < (n : Int) := by omega
          have HD : Hid (Dgs o) := Carr.done (n := i) (by rw [← Hn.out, hin]) (by rw [hin]; exact hC) HA.out HB.out
          have HN : Hid _ := hC.num
          have HL : Hid _ := hC.len
          have Hbw : Hid _ := hbw
          have Hr : Hid _ := hr
          clear hC hbw hr ht hin
          go_wp2_with fail
          go_ret
          exact ⟨by rw [← Hn.out]; rfl, o, Hr.out, by rw [← Hn.out]; exact HL.out, HD.out, HN.out, Hbw.out, hsz⟩

end Go.Proofs.YtkmoglhgkcnalaaDoor
