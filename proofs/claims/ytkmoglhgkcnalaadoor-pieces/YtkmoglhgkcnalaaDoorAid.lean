/- Small laws on worlds. Nothing of the program is imported. -/
import Derived.WalkKit
import Derived.WalkSpells
import Derived.WalkLawsBesides
import Derived.Deep.MidRow
import Derived.Deep.OwnRows
namespace Go.Proofs.YtkmoglhgkcnalaaDoor
open Go.RowKit

theorem results_cell_mid {P : Program} {fn : Func} {p : Tmp} {ty : TypeId} (h : fn.results = #[.cell p ty]) (tmps : Array Value) (w : World) (b o : Nat) (cs : List Value) (d : TypeDesc)
    (hp : tmps.getD p undef = .pointer (some ⟨b, o, none⟩)) (hc : w.rangeAt b o cs)
    (hu : P.underlying ty = some d) (hd : d.isRow = true) (hi : (P.info? ty).map (·.size) = some cs.length) :
    (results fn tmps).run P w = .ok (.agg cs.toArray) w := by
  have hp' : tmps[p]?.getD undef = .pointer (some ⟨b, o, none⟩) := by simpa using hp
  simp [results, h, hp', asAddr, run_loadVar_mid w b o ty cs d hc hu hd hi]

theorem below_setCells {B b : Nat} (hB : B ≤ b) : ∀ (vs : List Value) (o : Nat) (w0 w : World), Below B w0 w → Below B w0 (w.setCells b o vs)
  | [], _, _, _, h => h
  | v :: r, o, w0, w, h => by
    rw [World.setCells]
    exact below_setCells hB r (o + 1) w0 _ (h.setCell (p := ⟨b, o, none⟩) hB v)

theorem ret_agg {a b : List Value} (h : a = b) : Ending.returned (.agg a.toArray) = .returned (.agg b.toArray) := by rw [h]

theorem madeCells_one (z : Value) (n : Nat) : madeCells #[z] n = (List.replicate n z).toArray := by
  apply Array.ext
  · simp [madeCells]
  · intro i h1 h2
    simp [madeCells, Nat.mod_one]

/-- a block that was just laid -/
theorem range_new (w : World) (L : List Value) (t : TypeId) (b : Nat) (hb : b = w.heap.size) : (w.alloc (.cells L.toArray t)).rangeAt b 0 L := fun j v hv => by
  rw [Nat.zero_add, World.cell?_alloc_at _ _ _ _ hb]; simpa using hv
theorem there_new (w : World) (c : Array Value) (t : TypeId) (b n : Nat) (hb : b = w.heap.size) (hn : c.size = n) : (w.alloc (.cells c t)).there b 0 n := fun j hj => by
  rw [Nat.zero_add, World.cell?_alloc_at _ _ _ _ hb, World.frozen?_alloc_at _ _ _ _ hb]
  simp [hn, hj]
theorem range_below {B b o : Nat} {w w' : World} {L : List Value} (h : Below B w w') (hb : b < B) (hr : w.rangeAt b o L) : w'.rangeAt b o L := fun j v hv => by
  rw [h.cell (p := ⟨b, o + j, none⟩) hb]; exact hr j v hv
theorem there_below {B b o n : Nat} {w w' : World} (h : Below B w w') (hb : b < B) (hr : w.there b o n) : w'.there b o n := fun j hj => by
  rw [h.cell (p := ⟨b, o + j, none⟩) hb, h.frozen (p := ⟨b, o + j, none⟩) hb]; exact hr j hj
theorem range_drewN {b o n : Nat} {w : World} {L : List Value} (h : w.rangeAt b o L) : (w.drewN n).rangeAt b o L := h
theorem there_drewN {b o n k : Nat} {w : World} (h : w.there b o k) : (w.drewN n).there b o k := h

end Go.Proofs.YtkmoglhgkcnalaaDoor
