/- The hash's rounds, on integers, as the program computes them. -/
import Derived.Test.YtkmoglhgkcnalaaDoorMath
namespace Go.Proofs.YtkmoglhgkcnalaaDoor
open Go.RowKit

/-- the eight words of a round -/
structure St where
  a : Int
  b : Int
  c : Int
  d : Int
  e : Int
  f : Int
  g : Int
  h : Int

def St.t (s : St) (k w : Int) : Int :=
  IntKind.u32.wrap (IntKind.u32.wrap (IntKind.u32.wrap (IntKind.u32.wrap (s.h + turnedF s.e 6 11 25) + bits .xor .u32 (bits .and .u32 s.e s.f) (bits .and .u32 (bits .xor .u32 4294967295 s.e) s.g)) + k) + w)
def St.u (s : St) : Int :=
  IntKind.u32.wrap (turnedF s.a 2 13 22 + bits .xor .u32 (bits .xor .u32 (bits .and .u32 s.a s.b) (bits .and .u32 s.a s.c)) (bits .and .u32 s.b s.c))
def St.next (s : St) (k w : Int) : St :=
  ⟨IntKind.u32.wrap (s.t k w + s.u), s.a, s.b, s.c, IntKind.u32.wrap (s.d + s.t k w), s.e, s.f, s.g⟩
def St.of (H : List Int) : St := ⟨H.getD 0 0, H.getD 1 0, H.getD 2 0, H.getD 3 0, H.getD 4 0, H.getD 5 0, H.getD 6 0, H.getD 7 0⟩
def St.list (s : St) : List Int := [s.a, s.b, s.c, s.d, s.e, s.f, s.g, s.h]
/-- so many rounds -/
def rndsTo (K W H : List Int) : Nat → St
  | 0 => St.of H
  | i + 1 => (rndsTo K W H i).next (K.getD i 0) (W.getD i 0)
/-- what the words grow by -/
def grownF (K H : List Int) (B : List UInt8) : List Int := (rndsTo K (schedTo B 64) H 64).list
/-- the words, so many of them grown -/
def mixTo (H G : List Int) (k : Nat) : List Int := (List.range 8).map fun i => if i < k then IntKind.u32.wrap (H.getD i 0 + G.getD i 0) else H.getD i 0
/-- what a full block makes of the words -/
def mixF (K H : List Int) (B : List UInt8) : List Int := mixTo H (grownF K H B) 8
theorem mixTo_length (H G : List Int) (k : Nat) : (mixTo H G k).length = 8 := by simp [mixTo]
theorem mixF_length (K H : List Int) (B : List UInt8) : (mixF K H B).length = 8 := mixTo_length _ _ _
theorem mixTo_start (H G : List Int) (h : H.length = 8) : mixTo H G 0 = H := by
  apply List.ext_getElem
  · simp [mixTo, h]
  · intro i h1 h2; simp [mixTo, List.getD, List.getElem?_eq_getElem h2]
theorem mixTo_get (H G : List Int) (k : Nat) (h : k < 8) : (cellsW (mixTo H G k))[k]? = some (.int .u32 (H.getD k 0)) := by
  simp [mixTo, cellsW, h]
theorem mixTo_set (H G : List Int) (k : Nat) (v : Int) (hv : v = IntKind.u32.wrap (H.getD k 0 + G.getD k 0)) : (cellsW (mixTo H G k)).set k (.int .u32 v) = cellsW (mixTo H G (k + 1)) := by
  subst hv
  apply List.ext_getElem
  · simp [mixTo, cellsW]
  · intro i h1 h2
    simp only [mixTo, cellsW, List.map_map, List.getElem_set, List.getElem_map, List.getElem_range, Function.comp]
    by_cases e : k = i
    · subst e; simp
    · rw [if_neg e]
      by_cases e2 : i < k
      · rw [if_pos e2, if_pos (by omega)]
      · rw [if_neg e2, if_neg (by omega)]

theorem st_t (s : St) (k w : Int) : (s.h + turnedF s.e 6 11 25 + bits .xor .u32 (bits .and .u32 s.e s.f) (bits .and .u32 (bits .xor .u32 (if IntKind.u32.signed = true then -1 else IntKind.u32.max) s.e) s.g) + k + w) % 4294967296 = s.t k w := by
  have e : (if IntKind.u32.signed = true then -1 else IntKind.u32.max) = (4294967295 : Int) := by decide
  rw [e, St.t]
  simp only [IntKind.wrap_u32]
  omega
theorem st_u (s : St) : (turnedF s.a 2 13 22 + bits .xor .u32 (bits .xor .u32 (bits .and .u32 s.a s.b) (bits .and .u32 s.a s.c)) (bits .and .u32 s.b s.c)) % 4294967296 = s.u := by
  rw [St.u, IntKind.wrap_u32]
theorem next_a (s : St) (k w : Int) : ((s.h + turnedF s.e 6 11 25 + bits .xor .u32 (bits .and .u32 s.e s.f) (bits .and .u32 (bits .xor .u32 (if IntKind.u32.signed = true then -1 else IntKind.u32.max) s.e) s.g) + k + w) % 4294967296 +
    (turnedF s.a 2 13 22 + bits .xor .u32 (bits .xor .u32 (bits .and .u32 s.a s.b) (bits .and .u32 s.a s.c)) (bits .and .u32 s.b s.c)) % 4294967296) % 4294967296 = (s.next k w).a := by
  rw [st_t, st_u, St.next, IntKind.wrap_u32]
theorem next_e (s : St) (k w : Int) : (s.d + (s.h + turnedF s.e 6 11 25 + bits .xor .u32 (bits .and .u32 s.e s.f) (bits .and .u32 (bits .xor .u32 (if IntKind.u32.signed = true then -1 else IntKind.u32.max) s.e) s.g) + k + w) % 4294967296) % 4294967296 = (s.next k w).e := by
  rw [st_t, St.next, IntKind.wrap_u32, IntKind.wrap_u32]

end Go.Proofs.YtkmoglhgkcnalaaDoor
