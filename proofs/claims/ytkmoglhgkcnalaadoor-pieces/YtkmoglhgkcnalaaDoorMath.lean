/- The hash's plain functions on integers, as the program computes them. Nothing of the program is imported. -/
import Derived.WalkKit
namespace Go.Proofs.YtkmoglhgkcnalaaDoor
open Go.RowKit

theorem bits_u64_nonneg (op : BinOp) (x y : Int) : 0 ≤ bits op .u64 x y := by
  unfold bits; simp only [IntKind.wrap_u64]; omega

/-- what RotateLeft32 computes -/
def rotF (x k : Int) : Int :=
  bits .or .u32 (IntKind.u32.wrap (x * 2 ^ min (bits .and .u64 (IntKind.u64.wrap k) 31).toNat 32)) (x / 2 ^ min (IntKind.u64.wrap (32 - bits .and .u64 (IntKind.u64.wrap k) 31)).toNat 32)
def turnedF (x a b c : Int) : Int := bits .xor .u32 (bits .xor .u32 (rotF x (-a)) (rotF x (-b))) (rotF x (-c))
def shiftedF (x a b c : Int) : Int := bits .xor .u32 (bits .xor .u32 (rotF x (-a)) (rotF x (-b))) (x / 2 ^ c.toNat)

theorem ret_str {a b : List UInt8} (h : a = b) : Ending.returned (.string ⟨a.toArray⟩) = .returned (.string ⟨b.toArray⟩) := by rw [h]
/-- the number that some bytes are made of, the high byte first -/
def numF (l : List UInt8) : Int := l.foldl (fun n b => 256 * n + (b.toNat : Int)) 0

theorem numF_snoc (l : List UInt8) (b : UInt8) : numF (l ++ [b]) = 256 * numF l + (b.toNat : Int) := by
  simp [numF, List.foldl_append]
theorem numF_lt_aux (n : Nat) : ∀ l : List UInt8, l.length = n → 0 ≤ numF l ∧ numF l < 256 ^ n := by
  induction n with
  | zero => intro l h; rw [List.length_eq_zero_iff] at h; subst h; simp [numF]
  | succ n ih =>
    intro l h
    obtain ⟨r, b, rfl⟩ : ∃ r b, l = r ++ [b] := ⟨l.dropLast, l.getLast (by intro h0; simp [h0] at h), (List.dropLast_concat_getLast _).symm⟩
    have := ih r (by simp at h; omega)
    rw [numF_snoc]
    have hb := b.toNat_lt
    rw [Int.pow_succ]
    omega
theorem numF_lt (l : List UInt8) (n : Nat) (h : l.length ≤ n) : 0 ≤ numF l ∧ numF l < 256 ^ n := by
  have h1 := numF_lt_aux _ l rfl
  refine ⟨h1.1, Int.lt_of_lt_of_le h1.2 ?_⟩
  have h2 := Nat.pow_le_pow_right (n := 256) (by decide) h
  have e1 := Int.natCast_pow 256 l.length
  have e2 := Int.natCast_pow 256 n
  rw [show ((256 : Nat) : Int) = 256 from rfl] at e1 e2
  rw [← e1, ← e2]
  exact Int.ofNat_le.2 h2
theorem num_step (n : Int) (b : UInt8) (h0 : 0 ≤ n) (h1 : n < 72057594037927936) : bits .or .u64 (n * 256) (IntKind.u64.wrap (b.toNat : Int)) = 256 * n + (b.toNat : Int) := by
  have hb := b.toNat_lt
  obtain ⟨m, rfl⟩ := Int.eq_ofNat_of_zero_le h0
  rw [IntKind.wrap_u64, Int.emod_eq_of_lt (by omega) (by omega)]
  have e : ((m : Int) * 256) = ((m * 256 : Nat) : Int) := by omega
  rw [e, u64_or_nat _ _ (by omega) (by omega), nat_join 8 (m * 256) b.toNat (by omega) (by omega)]
  omega
theorem ret_int {k : IntKind} {a b : Int} (h : a = b) : Ending.returned (.int k a) = .returned (.int k b) := by rw [h]

/-- a number as so many bytes, the high byte first -/
def octF (n : Nat) : Nat → List UInt8
  | 0 => []
  | k + 1 => octF (n / 256) k ++ [UInt8.ofNat n]
theorem octF_length (k : Nat) : ∀ n, (octF n k).length = k := by
  induction k with
  | zero => intro n; rfl
  | succ k ih => intro n; simp [octF, ih]
theorem octF_cons (j : Nat) : ∀ n, octF n (j + 1) = UInt8.ofNat (n / 256 ^ j) :: octF n j := by
  induction j with
  | zero => intro n; simp [octF]
  | succ j ih =>
    intro n
    rw [octF, ih (n / 256), octF, Nat.div_div_eq_div_mul, ← Nat.pow_succ', List.cons_append]
/-- bytes as cells -/
def cellsB (l : List UInt8) : List Value := l.map fun b => Value.int .u8 (b.toNat : Int)
theorem cellsB_length (l : List UInt8) : (cellsB l).length = l.length := by simp [cellsB]
/-- the cells of a text in the making: m of them are still nought -/
def txt (n k m : Nat) : List Value := List.replicate m (Value.int .u8 0) ++ cellsB (octF n (k - m))
theorem txt_length (n k m : Nat) (h : m ≤ k) : (txt n k m).length = k := by simp [txt, cellsB_length, octF_length]; omega
theorem txt_start (n k : Nat) : txt n k k = List.replicate k (Value.int .u8 0) := by simp [txt, octF, cellsB]
theorem txt_end (n k : Nat) : txt n k 0 = cellsB (octF n k) := by simp [txt]
theorem txt_get (n k p : Nat) : (txt n k (p + 1))[p]? = some (Value.int .u8 0) := by
  rw [txt, List.getElem?_append_left (by simp)]; simp
theorem txt_set (n k p : Nat) (h : p < k) (v : Int) (hv : v = ((n / 256 ^ (k - (p + 1))) % 256 : Nat)) : (txt n k (p + 1)).set p (Value.int .u8 v) = txt n k p := by
  subst hv
  rw [txt, txt, show k - p = (k - (p + 1)) + 1 from by omega, octF_cons, List.replicate_succ', cellsB, cellsB, List.map_cons, List.append_assoc, List.set_append_right _ _ (by simp)]
  simp

/-- words as cells -/
def cellsW (l : List Int) : List Value := l.map fun x => Value.int .u32 x
theorem cellsW_length (l : List Int) : (cellsW l).length = l.length := by simp [cellsW]
/-- the i-th word of a block -/
def wordF (B : List UInt8) (i : Nat) : Int := IntKind.u32.wrap (numF ((B.drop (4 * i)).take 4))
/-- the schedule's next word -/
def nextF (W : List Int) (i : Nat) : Int :=
  IntKind.u32.wrap (IntKind.u32.wrap (IntKind.u32.wrap (W.getD (i - 16) 0 + shiftedF (W.getD (i - 15) 0) 7 18 3) + W.getD (i - 7) 0) + shiftedF (W.getD (i - 2) 0) 17 19 10)
theorem nextF_at (W : List Int) (m : Nat) : nextF W (m + 16) = IntKind.u32.wrap (IntKind.u32.wrap (IntKind.u32.wrap (W.getD m 0 + shiftedF (W.getD (m + 1) 0) 7 18 3) + W.getD (m + 9) 0) + shiftedF (W.getD (m + 14) 0) 17 19 10) := by
  rw [nextF, show m + 16 - 16 = m from by omega, show m + 16 - 15 = m + 1 from by omega, show m + 16 - 7 = m + 9 from by omega, show m + 16 - 2 = m + 14 from by omega]
/-- the schedule's first words, so many -/
def schedTo (B : List UInt8) : Nat → List Int
  | 0 => []
  | k + 1 => schedTo B k ++ [if k < 16 then wordF B k else nextF (schedTo B k) k]
theorem schedTo_length (B : List UInt8) (k : Nat) : (schedTo B k).length = k := by
  induction k with
  | zero => rfl
  | succ k ih => simp [schedTo, ih]
/-- the schedule in the making: the rest is nought -/
def schedC (B : List UInt8) (k : Nat) : List Int := schedTo B k ++ List.replicate (64 - k) 0
theorem schedC_length (B : List UInt8) (k : Nat) (h : k ≤ 64) : (schedC B k).length = 64 := by simp [schedC, schedTo_length]; omega
theorem schedC_set (B : List UInt8) (k : Nat) (h : k < 64) (v : Int) (hv : v = if k < 16 then wordF B k else nextF (schedTo B k) k) : (cellsW (schedC B k)).set k (.int .u32 v) = cellsW (schedC B (k + 1)) := by
  subst hv
  rw [schedC, schedC, show 64 - k = (64 - (k + 1)) + 1 from by omega, List.replicate_succ, cellsW, cellsW, schedTo]
  rw [List.map_append, List.set_append_right _ _ (by simp [schedTo_length])]
  simp [schedTo_length]
theorem schedC_get (B : List UInt8) (k j : Nat) (h : j < k) : (cellsW (schedC B k))[j]? = some (.int .u32 ((schedTo B k).getD j 0)) := by
  rw [schedC, cellsW, List.map_append, List.getElem?_append_left (by simp [schedTo_length]; omega)]
  simp [schedTo_length, h]
theorem schedC_some (B : List UInt8) (k : Nat) (hk : k < 64) : (cellsW (schedC B k))[k]? = some (.int .u32 0) := by
  rw [schedC, cellsW, List.map_append, List.getElem?_append_right (by simp [schedTo_length])]
  rw [List.map_replicate, List.getElem?_replicate, if_pos (by simp [schedTo_length]; omega)]

theorem schedC_full (B : List UInt8) : schedC B 64 = schedTo B 64 := by simp [schedC]
theorem cellsW_one (l : List Int) : ∀ v ∈ cellsW l, v.oneCell' = true := by
  intro v hv; simp only [cellsW, List.mem_map] at hv; obtain ⟨x, _, rfl⟩ := hv; rfl
theorem cellsB_one (l : List UInt8) : ∀ v ∈ cellsB l, v.oneCell' = true := by
  intro v hv; simp only [cellsB, List.mem_map] at hv; obtain ⟨x, _, rfl⟩ := hv; rfl

end Go.Proofs.YtkmoglhgkcnalaaDoor
