/- Proved: 'lintellaw.FusesRead' returns true for every input, and its argument reads as it did: Fuses answers as the document says, of any words; nothing handed in is written into; the lists that come out are the caller's. No condition. -/
import Derived.Test.YtkmoglhgkcnalaaFusesRead
import Derived.ProofKit
import Derived.OpenShut
import Derived.SizedLaws
import Derived.ChangeOld
import Derived.Below
import Derived.Deep.DeepHandedRow
namespace Go.Proofs.Ytkmoglhgkcnalaa.fusesRead
open Go.ChangeShapes Go.WideShapes Go.ChangeAt Go.RowKit

theorem some_any (l : List Int) (b off cap : Nat) (w : World) (hr : w.rangeAt b off (cellsI l)) (hl : l.length ≤ 20000000000000) (hb : b < w.heap.size) :
    Calls Try.prog 3 #[.slice (some ⟨b, off, none⟩) l.length cap] w fun e w' => e = .returned (.bool true) ∧ Below w.heap.size w w' :=
  fusesRead_walk l (some ⟨b, off, none⟩) cap w hl (numbers_any l b off cap w hr hl)
    (fun w' hb' => refFuses_any l b off cap w' (range_below hb' hb hr) (by omega) (by have := hb'.size; omega))
    (fun w' hb' hh => kept_eq l w.heap.size (some ⟨b, off, none⟩) cap w' hl hh fun k hk => ⟨b, off, rfl, rangeI (range_below hb' hb hr) k hk⟩)
theorem none_any (al : Option Addr) (cap : Nat) (w : World) :
    Calls Try.prog 3 #[.slice al 0 cap] w fun e w' => e = .returned (.bool true) ∧ Below w.heap.size w w' :=
  fusesRead_walk [] al cap w (by simp) (numbers_nil al cap w) (fun w' _ => refFuses_len [] al cap w' (by simp)) (fun w' _ hh => kept_eq [] w.heap.size al cap w' (by simp) hh fun k hk => by cases hk)

theorem own : ownKnob Try.prog.godebug = none := by kernel_rfl
theorem laidOut : laidOutB Try.prog = true := by kernel_rfl

set_option maxRecDepth 100000 in
theorem lifted (os : Os) (started : os.Started) (H : Type) (enc : TypeId × Value → H) :
    ReturnsInHanded {} Try.checked os 3 .any (Rows.fusesReadSpec.pre6 enc Try.prog Try.f3 Rows.fusesReadRow.domain false) (Rows.fusesReadSpec.post enc Try.prog Try.f3 false true false false) := by
  refine returnsInHanded_of_change_sized (C := Try.checked) own started (by kernel_rfl) Try.func3
    (ChangeSpec.witness6 (enc := enc) (C := Try.checked) false ⟨#[], #[.slice none 0 0], []⟩ 8 (by kernel_rfl) (by kernel_rfl) (by kernel_rfl) (by kernel_rfl)) ?_
  intro W base args ds gs before hval0 hW hcnd hR _
  have hval : ∀ (j : Nat) t v, Try.f3.params[j]? = some t → args[j]? = some v → Value.okWide Try.prog W .any base t v := hval0
  have hW' := hW
  obtain ⟨p, q, hA0, hV, rfl, hfz, hnd⟩ := hW
  have hA : DataW.TrodAll enc Try.prog W 0 (fun _ => true) true Try.f3.params.toList args.toList ds p := hA0
  rw [Try.params3] at hA hval
  obtain ⟨v0, vs0, d0, ds0, p0, q0, hargs, rfl, rfl, h0, r0⟩ := trodAll_cons hA
  obtain ⟨rfl, rfl, rfl⟩ := trodAll_nil r0
  obtain rfl : args = #[v0] := by cases args; simp_all
  obtain ⟨rfl, rfl⟩ := trodVars_none hV
  obtain ⟨a1, len1, cap1, rfl⟩ := okWide_slice Try.underlying22 (hval 0 22 v0 rfl rfl)
  have k1 := h0
  have lt1 : ∀ x ∈ p0, x.block < W.heap.size := by obtain ⟨m, hm⟩ := k1; exact DataW.trod_lt m _ _ _ hm
  have walk : Calls Try.prog 3 #[.slice a1 len1 cap1] W fun e w' => e = .returned (.bool true) ∧ Below W.heap.size W w' := by
    obtain ⟨fuel, hf⟩ := h0
    rcases open_ints Try.underlying22 Try.underlying3 (by kernel_rfl) hf with ⟨hcs, _⟩ | ⟨x, len, cap, zs, hcs, _, hl, hm, hz, hx, hcell, hwz⟩
    · simp [Value.cells] at hcs
      obtain ⟨rfl, rfl, rfl⟩ := hcs
      exact none_any none 0 W
    · simp [Value.cells] at hcs
      obtain ⟨rfl, rfl, rfl⟩ := hcs
      by_cases h00 : len1 = 0
      · subst h00
        exact none_any (some x) cap1 W
      · have hz' : zs.length = cap1 := by simpa using hz
        have hd : d0 = .slice (lits .i64 (zs.take len1)) (lits .i64 (zs.drop len1)) := congrArg Prod.fst hx
        have hbig : len1 ≤ 20000000000000 := by
          have h := sized_slice hR (j := 0) (t := 22) (e := 3) (elems := lits .i64 (zs.take len1)) (spare := lits .i64 (zs.drop len1)) (by rw [Try.params3]; rfl) (by rw [hd]; rfl) Try.underlying22
          rw [show Try.checked.prog.bytesOf 3 = 8 by kernel_rfl] at h
          have h2 := reachBytes_lt
          simp [lits] at h
          omega
        obtain ⟨b, off, rfl, hc⟩ := ints_at hcell (by omega)
        have hr : W.rangeAt b off (cellsI (zs.take len1)) := fun j v hv => by
          have hj : j < len1 := by have := (List.getElem?_eq_some_iff.1 hv).1; simp [cellsI] at this; omega
          rw [hc j (by omega)]
          simp only [cellsI, List.getElem?_map, List.getElem?_take, if_pos hj] at hv
          rw [List.getD_eq_getElem?_getD]
          cases hq : zs[j]? with
          | none => simp [hq] at hv
          | some y => simpa [hq] using hv
        have hlen : (zs.take len1).length = len1 := by simp; omega
        have := some_any (zs.take len1) b off cap1 W hr (by omega) (World.block_lt_of_cell? W _ (hc 0 (by omega)))
        rwa [hlen] at this
  clear hA0 hval0
  refine walk.mono fun e W' ⟨he, bel⟩ => ?_
  subst he
  simp only [List.append_nil] at hW'
  exact ⟨_, rfl, _, _, _, [], _, [], hW', trodAll_mk1 (shut_bool Try.underlying4 _), (trodAll_cons_mk (Below.trod laidOut (by kernel_rfl) (of_decide_eq_true (by kernel_rfl)) k1 bel lt1) trodAll_mk0), rfl, bel.frame _, fun h => by cases h⟩

theorem over : Rows.fusesReadRow.holds Try.pinned (OpenSpec.ofChange Rows.fusesReadSpec) :=
  OpenClaim.holds_of_wide 3 Try.f3 rfl rfl rfl rfl rfl rfl rfl ⟨rfl, rfl, rfl, rfl, rfl⟩ rfl rfl rfl rfl rfl (by kernel_rfl) Try.func3 (by kernel_rfl)
    (of_decide_eq_true (by kernel_rfl)) (by unfold Func.isWrapper; first | (rw [if_pos (by decide +kernel)]; kernel_rfl) | (rw [if_neg (by decide +kernel)]; exact ⟨rfl, rfl⟩))
    (fun os started H enc _ => lifted os started H enc)
end Go.Proofs.Ytkmoglhgkcnalaa.fusesRead

namespace Go.Proofs.Ytkmoglhgkcnalaa
theorem fusesRead_holds : Rows.FusesReadSaid := fusesRead.over
end Go.Proofs.Ytkmoglhgkcnalaa
