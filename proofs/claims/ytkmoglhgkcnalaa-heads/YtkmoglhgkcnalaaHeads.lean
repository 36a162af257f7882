/- Heads: the walk. -/
import Derived.Test.YtkmoglhgkcnalaaHRef
namespace Go.Proofs.Ytkmoglhgkcnalaa
open Go.RowKit

theorem headF_form (L : List UInt8) : ∃ v sg en a l k, (headF L).1 = headV v sg en a l k := by
  rcases headF_cases L with h | h
  · exact ⟨0, 0, 0, 0, 0, [], h⟩
  · exact h

set_option maxRecDepth 100000 in
set_option maxHeartbeats 400000 in
theorem lintelHead_any (s : ByteArray) (w : World) (hs : s.size ≤ 140737488355328) :
    Calls Try.prog 10 #[.string s] w fun e w' => e = .returned (.tuple #[.agg (headF s.data.toList).1.toArray, .int .i64 (headF s.data.toList).2]) ∧ Below w.heap.size w w' := by
  obtain ⟨v, sg, en, a, l, k, hH⟩ := headF_form s.data.toList
  have hc := fun w => head_any s w hs
  rw [hH] at hc ⊢
  generalize (headF s.data.toList).2 = n at *
  have HC : Hid _ := hc
  clear hc hH
  go_enter Try.func10, Try.ntmps10
  go_wp2_with fail
  refine (HC.out _).mono ?_
  rintro e w1 ⟨rfl, hb1⟩
  have hth : w1.there w.heap.size 0 6 := there_below hb1 (by simp) (there_new _ _ _ _ _ rfl rfl)
  have Hth : Hid (w1.there w.heap.size 0 (headV v sg en a l k).toArray.size) := hth
  have Hth2 : Hid (w1.there w.heap.size 0 (headV v sg en a l k).length) := hth
  have Hb1 : Hid (Below w.heap.size w w1) := ((Below.refl _ _).alloc (Nat.le_refl _) _).trans (hb1.mono (by simp))
  clear hb1 hth
  go_wp2_with (refine wpList_store_mid rfl 35 (.tmp 2) (.tmp 6) rfl w.heap.size 0 (headV v sg en a l k).toArray rfl rfl Hth.out (by kernel_rfl) (by kernel_rfl) ?_)
  exact bodyPost_ret (v := .tuple #[.agg (headV v sg en a l k).toArray, .int .i64 n]) (results_cell_tmp (p := 2) (q := 3) (ty := 35) (by kernel_rfl) _ _ w.heap.size 0 (headV v sg en a l k) _ _ rfl (World.rangeAt_setCells_same _ _ _ _ Hth2.out) rfl Try.underlying35 rfl (by kernel_rfl)) rfl ⟨rfl, below_setCells (Nat.le_refl _) _ _ _ _ Hb1.out⟩

set_option maxHeartbeats 400000 in
theorem filled_any (s : ByteArray) (w : World) (hs : s.size ≤ 140737488355328) :
    Calls Try.prog 12 #[.string s] w fun e w' => ∃ t : ByteArray, e = .returned (.string t) ∧ t.size ≤ 140737488355328 ∧ Below w.heap.size w w' := by
  by_cases h1 : 8192 ≤ s.size
  · have h1' : (8192 : Int) ≤ (s.size : Int) := by omega
    go_enter Try.func12, Try.ntmps12
    go_wp2_with fail
    go_ret
    exact ⟨_, rfl, hs, Below.refl _ _⟩
  · have h1' : ¬ (8192 : Int) ≤ (s.size : Int) := by omega
    obtain ⟨m, hm⟩ : ∃ m, m = 8192 - s.size := ⟨_, rfl⟩
    have hme : 8192 - (s.size : Int) = (m : Int) := by omega
    have hm8 : m ≤ 8192 := by omega
    have hmk := fun w => run_make_row' (P := Try.prog) 46 5 (.int .u8 0) 1 Try.underlying46 Try.info5 rfl .i64 .i64 m (by omega) (by omega) w
    have hcv := run_convert_bytes_back (P := Try.prog) (w.alloc (.cells (madeCells #[.int .u8 0] m) 5)) 46 9 5 ⟨w.heap.size, 0, none⟩ m (List.replicate m 0) Try.underlying46 Try.underlying5 Try.underlying9
      (fun j hj => by rw [Addr.add_mid, World.cell?_alloc_at _ _ _ _ rfl, madeCells_one]; simp at hj ⊢; simp [hj])
    rw [List.length_replicate] at hcv
    clear hm
    go_enter Try.func12, Try.ntmps12
    go_wp2_with fail
    go_ret
    exact ⟨_, rfl, by rw [ByteArray.size_append]; show s.size + (List.replicate m (0 : UInt8)).toArray.size ≤ _; simp; omega, (Below.refl _ _).alloc (Nat.le_refl _) _⟩

theorem both_heads (t : ByteArray) (ht : t.size ≤ 140737488355328) : ∃ v sg en a l k n,
    (∀ w, Calls Try.prog 10 #[.string t] w fun e w' => e = .returned (.tuple #[.agg (headV v sg en a l k).toArray, .int .i64 n]) ∧ Below w.heap.size w w') ∧
    (∀ w, Calls Try.prog 11 #[.string t] w fun e w' => e = .returned (.tuple #[.agg (headV v sg en a l k).toArray, .int .i64 n]) ∧ Below w.heap.size w w') := by
  obtain ⟨v, sg, en, a, l, k, hH⟩ := headF_form t.data.toList
  refine ⟨v, sg, en, a, l, k, (headF t.data.toList).2, fun w => ?_, fun w => ?_⟩
  · have := lintelHead_any t w ht; rwa [hH] at this
  · have := refHead_any t w ht; rwa [hH] at this

/-- two heads in memory -/
structure TwoW (w M : World) (x y : Nat) (X Y : List Value) : Prop where
  below : Below w.heap.size w M
  ord : w.heap.size ≤ x ∧ x < y ∧ y < M.heap.size
  xr : M.rangeAt x 0 X
  yr : M.rangeAt y 0 Y
  xt : M.there x 0 6
  yt : M.there y 0 6
theorem twoW_make {w w1 w2 : World} (T : TypeId) (T2 : TypeId) (H : List Value) (hl : H.length = 6) (hb1 : Below w.heap.size w w1) (hb2 : Below (w1.alloc (.cells H.toArray T)).heap.size (w1.alloc (.cells H.toArray T)) w2) :
    TwoW w (w2.alloc (.cells H.toArray T2)) w1.heap.size w2.heap.size H H := by
  have hs1 := hb1.size
  have hs2 := hb2.size
  rw [World.size_alloc] at hs2
  exact ⟨((hb1.alloc hs1 _).trans (hb2.mono (by rw [World.size_alloc]; omega))).alloc (by omega) _, ⟨hs1, by omega, by simp⟩, World.rangeAt_alloc (range_below hb2 (by simp) (range_new _ _ _ _ rfl)) _, range_new _ _ _ _ rfl,
    World.there_alloc (there_below hb2 (by simp) (there_new _ _ _ _ _ rfl (by simp [hl]))) _, there_new _ _ _ _ _ rfl (by simp [hl])⟩
theorem TwoW.calm {w M M' : World} {x y : Nat} {X Y : List Value} (h : TwoW w M x y X Y) (hb : Below M.heap.size M M') : TwoW w M' x y X Y := by
  obtain ⟨o1, o2, o3⟩ := h.ord
  have hs := hb.size
  exact ⟨h.below.trans (hb.mono (by omega)), ⟨o1, o2, by omega⟩, range_below hb (by omega) h.xr, range_below hb o3 h.yr, there_below hb (by omega) h.xt, there_below hb o3 h.yt⟩
theorem size_setCells (b : Nat) : ∀ (vs : List Value) (o : Nat) (w : World), (w.setCells b o vs).heap.size = w.heap.size
  | [], _, _ => rfl
  | v :: r, o, w => by rw [World.setCells, size_setCells b r (o + 1)]; simp [World.setCell]
theorem TwoW.setX {w M : World} {x y : Nat} {X Y : List Value} (h : TwoW w M x y X Y) (Z : List Value) (hz : Z.length = 6) : TwoW w (M.setCells x 0 Z) x y Z Y := by
  obtain ⟨o1, o2, o3⟩ := h.ord
  exact ⟨below_setCells o1 _ _ _ _ h.below, ⟨o1, o2, by rw [size_setCells]; exact o3⟩, World.rangeAt_setCells_same _ _ _ _ (by rw [hz]; exact h.xt), World.rangeAt_setCells_apart h.yr _ _ _ (Or.inl (by omega)), World.there_setCells h.xt _ _ _, World.there_setCells h.yt _ _ _⟩
theorem TwoW.setY {w M : World} {x y : Nat} {X Y : List Value} (h : TwoW w M x y X Y) (Z : List Value) (hz : Z.length = 6) : TwoW w (M.setCells y 0 Z) x y X Z := by
  obtain ⟨o1, o2, o3⟩ := h.ord
  exact ⟨below_setCells (by omega) _ _ _ _ h.below, ⟨o1, o2, by rw [size_setCells]; exact o3⟩, World.rangeAt_setCells_apart h.xr _ _ _ (Or.inl (by omega)), World.rangeAt_setCells_same _ _ _ _ (by rw [hz]; exact h.yt), World.there_setCells h.xt _ _ _, World.there_setCells h.yt _ _ _⟩

set_option maxRecDepth 100000 in
set_option maxHeartbeats 1000000 in
theorem heads_any (s : ByteArray) (w : World) (hs : s.size ≤ 140737488355328) :
    Calls Try.prog 4 #[.string s] w fun e w' => e = .returned (.bool true) ∧ Below w.heap.size w w' := by
  obtain ⟨v, sg, en, a, l, k, n, hc, hd⟩ := both_heads s hs
  have HC : Hid _ := hc
  have HD : Hid _ := hd
  clear hc hd
  go_enter Try.func4, Try.ntmps4
  go_wp2_with fail
  refine (HC.out _).mono ?_
  rintro e w1 ⟨rfl, hb1⟩
  have Hb1 : Hid _ := hb1
  have hs1 := hb1.size
  clear hb1
  unfold headV
  go_wp2_with fail
  refine (HD.out _).mono ?_
  rintro e w2 ⟨rfl, hb2⟩
  unfold headV
  have hs2 := hb2.size
  have HT : Hid (TwoW w (w2.alloc (.cells #[.int .i64 v, .int .i64 sg, .int .i64 en, .int .i64 a, .int .i64 l, .string ⟨k.toArray⟩] 35)) w1.heap.size w2.heap.size (headV v sg en a l k) (headV v sg en a l k)) := twoW_make _ _ (headV v sg en a l k) rfl Hb1.out hb2
  generalize w1.heap.size = x at *
  clear hb2 hs1 hs2 Hb1
  go_wp2_with (first
    | refine wpList_load_mid rfl 35 (.tmp 3) rfl x 0 rfl [.int .i64 v, .int .i64 sg, .int .i64 en, .int .i64 a, .int .i64 l, .string ⟨k.toArray⟩] _ HT.out.xr Try.underlying35 rfl (by kernel_rfl) ?_
    | refine wpList_load_mid rfl 35 (.tmp 5) rfl w2.heap.size 0 rfl [.int .i64 v, .int .i64 sg, .int .i64 en, .int .i64 a, .int .i64 l, .string ⟨k.toArray⟩] _ HT.out.yr Try.underlying35 rfl (by kernel_rfl) ?_)
  refine (filled_any s _ hs).mono ?_
  rintro e w4 ⟨t, rfl, ht, hb4⟩
  have HT4 : Hid _ := HT.out.calm hb4
  obtain ⟨v', sg', en', a', l', k', n', hc, hd⟩ := both_heads t ht
  have HC' : Hid _ := hc
  have HD' : Hid _ := hd
  clear hc hd HT hb4 HC HD
  go_wp2_with fail
  refine (HC'.out _).mono ?_
  rintro e w5 ⟨rfl, hb5⟩
  unfold headV
  have HT5 : Hid _ := HT4.out.calm hb5
  have Hx5 : Hid (w5.there x 0 (#[.int .i64 v', .int .i64 sg', .int .i64 en', .int .i64 a', .int .i64 l', .string ⟨k'.toArray⟩] : Array Value).size) := HT5.out.xt
  clear hb5 HT4
  go_wp2_with (refine wpList_store_mid rfl 35 (.tmp 3) (.tmp 30) rfl x 0 #[.int .i64 v', .int .i64 sg', .int .i64 en', .int .i64 a', .int .i64 l', .string ⟨k'.toArray⟩] ?g1 ?g2 ?g3 ?g4 ?g5 ?g6)
  case g1 => rfl
  case g2 => rfl
  case g3 => exact Hx5.out
  case g4 => kernel_rfl
  case g5 => kernel_rfl
  refine (HD'.out _).mono ?_
  rintro e w6 ⟨rfl, hb6⟩
  unfold headV
  have HT6 : Hid (TwoW w w6 x w2.heap.size (headV v' sg' en' a' l' k') (headV v sg en a l k)) := (HT5.out.setX (headV v' sg' en' a' l' k') rfl).calm hb6
  have Hy6 : Hid (w6.there w2.heap.size 0 (#[.int .i64 v', .int .i64 sg', .int .i64 en', .int .i64 a', .int .i64 l', .string ⟨k'.toArray⟩] : Array Value).size) := HT6.out.yt
  have HT7 : Hid _ := HT6.out.setY (headV v' sg' en' a' l' k') rfl
  clear hb6 HT5
  have hx7 : (w6.setCells w2.heap.size 0 [.int .i64 v', .int .i64 sg', .int .i64 en', .int .i64 a', .int .i64 l', .string ⟨k'.toArray⟩]).rangeAt x 0 [.int .i64 v', .int .i64 sg', .int .i64 en', .int .i64 a', .int .i64 l', .string ⟨k'.toArray⟩] := HT7.out.xr
  have hy7 : (w6.setCells w2.heap.size 0 [.int .i64 v', .int .i64 sg', .int .i64 en', .int .i64 a', .int .i64 l', .string ⟨k'.toArray⟩]).rangeAt w2.heap.size 0 [.int .i64 v', .int .i64 sg', .int .i64 en', .int .i64 a', .int .i64 l', .string ⟨k'.toArray⟩] := HT7.out.yr
  have Hx7 : Hid _ := hx7
  have Hy7 : Hid _ := hy7
  clear hx7 hy7
  go_wp2_with (first
    | refine wpList_store_mid (by rfl) 35 (.tmp 5) (.tmp 35) (by rfl) w2.heap.size 0 #[.int .i64 v', .int .i64 sg', .int .i64 en', .int .i64 a', .int .i64 l', .string ⟨k'.toArray⟩] (by rfl) (by rfl) (by exact Hy6.out) (by kernel_rfl) (by kernel_rfl) ?_
    | refine wpList_load_mid (by rfl) 35 (.tmp 3) (by rfl) x 0 (by rfl) [.int .i64 v', .int .i64 sg', .int .i64 en', .int .i64 a', .int .i64 l', .string ⟨k'.toArray⟩] _ (by exact Hx7.out) Try.underlying35 (by rfl) (by kernel_rfl) ?_
    | refine wpList_load_mid (by rfl) 35 (.tmp 5) (by rfl) w2.heap.size 0 (by rfl) [.int .i64 v', .int .i64 sg', .int .i64 en', .int .i64 a', .int .i64 l', .string ⟨k'.toArray⟩] _ (by exact Hy7.out) Try.underlying35 (by rfl) (by kernel_rfl) ?_)
  go_ret
  exact ⟨rfl, HT7.out.below⟩

end Go.Proofs.Ytkmoglhgkcnalaa
