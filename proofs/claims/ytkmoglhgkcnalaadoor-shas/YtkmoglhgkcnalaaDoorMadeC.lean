/- The reference's roots. -/
import Derived.Test.YtkmoglhgkcnalaaDoorMadeB
namespace Go.Proofs.YtkmoglhgkcnalaaDoor
open Go.RowKit

/-- what a root's power must not pass -/
def topF (p : Int) (cube : Bool) : Int := if cube then p * 65536 ^ 6 else p * 65536 ^ 4
def powF (x : Int) (cube : Bool) : Int := if cube then x * x * x else x * x

theorem limb4 (x : Int) (h0 : 0 ≤ x) (h1 : x ≤ 1099511627776) : numL (limbF x 4) = x := limbF_num 4 x h0 (by have : (65536 : Int) ^ 4 = 18446744073709551616 := by decide
                                                                                                             omega)

set_option maxRecDepth 100000 in
set_option maxHeartbeats 1000000 in
theorem root_any (p : Int) (cube : Bool) (r : Int) (w : World) (hp0 : 0 ≤ p) (hp1 : p < 65536) (hr0 : 0 ≤ r) (hr1 : r < 1099511627776) (hlo : ∀ x, 0 ≤ x → x ≤ r → powF x cube ≤ topF p cube) (hhi : ∀ x, r < x → topF p cube < powF x cube) :
    Calls Tryd.prog 25 #[.int .i64 p, .bool cube] w fun e w' => e = .returned (.int .i64 (r % 4294967296)) ∧ Below w.heap.size w w' := by
  have HLO : Hid (∀ x, 0 ≤ x → x ≤ r → powF x cube ≤ topF p cube) := hlo
  have HHI : Hid (∀ x, r < x → topF p cube < powF x cube) := hhi
  clear hlo hhi
  go_enter Tryd.func25, Tryd.ntmps25
  go_wp2
  go_loopw [5, 6] (fun lo hi wr => ∃ (l h : Int), 0 ≤ l ∧ l ≤ r ∧ r < h ∧ h ≤ 1099511627776 ∧ lo = .int .i64 l ∧ hi = .int .i64 h ∧ Below w.heap.size w wr) (fun lo hi _ => (intOf hi - intOf lo).toNat)
  case atStart => exact ⟨0, 1099511627776, by omega, hr0, by omega, by omega, rfl, rfl, Below.refl _ _⟩
  case round =>
    obtain ⟨l, h, h1, h2, h3, h4, rfl, rfl, hb⟩ := hrel
    have Hb : Hid _ := hb
    clear hb
    by_cases hlt : l + 1 < h
    · obtain ⟨m, hm⟩ : ∃ m, m = (l + h) / 2 := ⟨_, rfl⟩
      have hm0 : l < m := by omega
      have hm1 : m < h := by omega
      have hm' : (l + h) / 2 = m := hm.symm
      clear hm
      go_wp2_with fail
      refine (limbs_any m _ (by omega) (by omega)).mono ?_
      rintro e w1 ⟨v1, rfl, hown1, hb1⟩
      obtain ⟨g, cap, rfl, hg1, hg2, hrow1, hth1⟩ := hown1.row (by rw [limbF_length]; omega)
      clear hth1
      have hLn : numL (limbF m 4) = m := limb4 m (by omega) (by omega)
      have hLd := limbF_dgs 4 m
      have hLl := limbF_length 4 m
      generalize limbF m 4 = L at *
      have HR1 : Hid (w1.rangeAt g 0 (cellsI L)) := hrow1
      have HB1 : Hid (Below w.heap.size w w1) := Hb.out.trans (hb1.mono Hb.out.size)
      have HLd : Hid _ := hLd
      have HLl : Hid (L.length = 4) := hLl
      have HLn : Hid (numL L = m) := hLn
      have hgw : w.heap.size ≤ g := Nat.le_trans Hb.out.size hg1
      clear hown1 hb1 hrow1 hLd hLl hLn Hb hg1
      clear wr
      go_wp2_with fail
      refine (times_any L L g cap g cap w1 HR1.out hg2 HR1.out hg2 HLd.out HLd.out (by rw [HLl.out]; omega) (by rw [HLl.out]; omega) (by rw [HLl.out]; omega)).mono ?_
      rintro e w2 ⟨o, rfl, hro, hlo, hdo, hno, hb2, hs2⟩
      have HR2 : Hid _ := hro
      have HD2 : Hid _ := hdo
      have HN2 : Hid (numL o = m * m) := by show numL o = _; rw [hno, HLn.out]
      have HL2 : Hid (o.length = L.length + L.length) := hlo
      have HB2 : Hid (Below w.heap.size w w2) := HB1.out.trans (hb2.mono HB1.out.size)
      have HRL : Hid (w2.rangeAt g 0 (cellsI L)) := range_below hb2 hg2 HR1.out
      have hw1 := HB1.out.size
      clear hro hdo hno hlo hb2 HR1 HB1
      generalize w1.heap.size = y at *
      clear w1
      go_wp2_with fail
      refine (refShifted_any p 4 _ (by omega)).mono ?_
      rintro e w3 ⟨v3, rfl, hown3, hb3⟩
      obtain ⟨g3, cap3, rfl, hg31, hg32, hrow3, hth3⟩ := hown3.row (by simp [shiftF])
      clear hth3
      have HRo3 : Hid (w3.rangeAt y 0 (cellsI o)) := range_below hb3 hs2 HR2.out
      have HRL3 : Hid (w3.rangeAt g 0 (cellsI L)) := range_below hb3 (by omega) HRL.out
      have HB3 : Hid (Below w.heap.size w w3) := HB2.out.trans (hb3.mono HB2.out.size)
      have hs3 : y < w3.heap.size := by have := hb3.size; omega
      have HT3 : Hid (w3.rangeAt g3 0 (cellsI (shiftF p 4))) := hrow3
      have HTn : Hid _ := shiftF_num p 4
      have HTd : Hid _ := shiftF_dgs p 4 hp0 hp1
      have HTl : Hid ((shiftF p 4).length = 5) := by show (shiftF p 4).length = 5; simp [shiftF]
      clear hown3 hb3 hrow3 HRL HR2 HB2 hg31
      rw [← HL2.out]
      cases cube with
      | false =>
        generalize shiftF p 4 = T at *
        go_wp2_with fail
        refine (above_any o T y _ g3 cap3 w3 HRo3.out HT3.out HD2.out HTd.out (by rw [HL2.out, HLl.out]; omega) (by rw [HTl.out]; omega)).mono ?_
        rintro e w4 ⟨rfl, rfl⟩
        have hpow : powF m false = numL o := by rw [HN2.out]; rfl
        have htop : topF p false = numL T := by rw [HTn.out]; rfl
        have HB := HB3
        generalize o = O at *
        by_cases hg : numL T < numL O
        · have hgb : decide (numL T < numL O) = true := decide_eq_true hg
          rw [hgb]
          have hrm : r < m := by
            apply Classical.byContradiction
            intro hh
            have := HLO.out m (by omega) (by omega)
            rw [hpow, htop] at this
            omega
          clear hgb hg
          go_wp2_with fail
          go_roundw
          case rel => exact ⟨l, m, h1, h2, hrm, by omega, rfl, rfl, HB.out⟩
          case measure => simp [intOf]; omega
        · have hgb : decide (numL T < numL O) = false := decide_eq_false hg
          rw [hgb]
          have hrm : m ≤ r := by
            apply Classical.byContradiction
            intro hh
            have := HHI.out m (by omega)
            rw [hpow, htop] at this
            omega
          clear hgb hg
          go_wp2_with fail
          go_roundw
          case rel => exact ⟨m, h, by omega, hrm, h3, h4, rfl, rfl, HB.out⟩
          case measure => simp [intOf]; omega
      | true =>
        clear HT3 HTn HTd HTl hg32
        go_wp2_with fail
        refine (times_any o L y _ g cap w3 HRo3.out hs3 HRL3.out (by omega) HD2.out HLd.out (by rw [HL2.out, HLl.out]; omega) (by rw [HL2.out, HLl.out]; omega) (by rw [HL2.out, HLl.out]; omega)).mono ?_
        rintro e w4 ⟨O, rfl, hro, hlo, hdo, hno, hb4, hs4⟩
        have HR4 : Hid _ := hro
        have HD4 : Hid _ := hdo
        have HN4 : Hid (numL O = m * m * m) := by show numL O = _; rw [hno, HN2.out, HLn.out]
        have HL4 : Hid (O.length = o.length + L.length) := hlo
        have HB4 : Hid (Below w.heap.size w w4) := HB3.out.trans (hb4.mono HB3.out.size)
        have hw3 := HB3.out.size
        clear hro hdo hno hlo hb4 HB3 HRo3 HRL3 hs3
        generalize w3.heap.size = z at *
        go_wp2_with fail
        refine (refShifted_any p 6 _ (by omega)).mono ?_
        rintro e w5 ⟨v5, rfl, hown5, hb5⟩
        obtain ⟨g5, cap5, rfl, hg51, hg52, hrow5, hth5⟩ := hown5.row (by simp [shiftF])
        have HRo5 : Hid (w5.rangeAt z 0 (cellsI O)) := range_below hb5 hs4 HR4.out
        have HB : Hid (Below w.heap.size w w5) := HB4.out.trans (hb5.mono HB4.out.size)
        have HT5 : Hid (w5.rangeAt g5 0 (cellsI (shiftF p 6))) := hrow5
        have HTn : Hid _ := shiftF_num p 6
        have HTd : Hid _ := shiftF_dgs p 6 hp0 hp1
        have HTl : Hid ((shiftF p 6).length = 7) := by show (shiftF p 6).length = 7; simp [shiftF]
        clear hown5 hb5 hrow5 HR4 HB4 hg51 hth5
        rw [← HL4.out]
        generalize shiftF p 6 = T at *
        go_wp2_with fail
        refine (above_any O T z _ g5 cap5 w5 HRo5.out HT5.out HD4.out HTd.out (by rw [HL4.out, HL2.out, HLl.out]; omega) (by rw [HTl.out]; omega)).mono ?_
        rintro e w6 ⟨rfl, rfl⟩
        have hpow : powF m true = numL O := by rw [HN4.out]; rfl
        have htop : topF p true = numL T := by rw [HTn.out]; rfl
        by_cases hg : numL T < numL O
        · have hgb : decide (numL T < numL O) = true := decide_eq_true hg
          rw [hgb]
          have hrm : r < m := by
            apply Classical.byContradiction
            intro hh
            have := HLO.out m (by omega) (by omega)
            rw [hpow, htop] at this
            omega
          clear hgb hg
          go_wp2_with fail
          go_roundw
          case rel => exact ⟨l, m, h1, h2, hrm, by omega, rfl, rfl, HB.out⟩
          case measure => simp [intOf]; omega
        · have hgb : decide (numL T < numL O) = false := decide_eq_false hg
          rw [hgb]
          have hrm : m ≤ r := by
            apply Classical.byContradiction
            intro hh
            have := HHI.out m (by omega)
            rw [hpow, htop] at this
            omega
          clear hgb hg
          go_wp2_with fail
          go_roundw
          case rel => exact ⟨m, h, by omega, hrm, h3, h4, rfl, rfl, HB.out⟩
          case measure => simp [intOf]; omega
    · have hlt' : ¬ l + 1 < h := hlt
      have hlr : l = r := by omega
      subst hlr
      go_wp2_with fail
      go_ret
      exact ⟨rfl, Hb.out⟩

end Go.Proofs.YtkmoglhgkcnalaaDoor
