import Derived.Test.YtkmoglhgkcnalaaDoorCalls
namespace Go.Proofs.YtkmoglhgkcnalaaDoor
open Go.RowKit

/-- the table's words -/
def KSc : List Int := [1116352408, 1899447441, 3049323471, 3921009573, 961987163, 1508970993, 2453635748, 2870763221, 3624381080, 310598401, 607225278, 1426881987, 1925078388, 2162078206, 2614888103, 3248222580, 3835390401, 4022224774, 264347078, 604807628, 770255983, 1249150122, 1555081692, 1996064986, 2554220882, 2821834349, 2952996808, 3210313671, 3336571891, 3584528711, 113926993, 338241895, 666307205, 773529912, 1294757372, 1396182291, 1695183700, 1986661051, 2177026350, 2456956037, 2730485921, 2820302411, 3259730800, 3345764771, 3516065817, 3600352804, 4094571909, 275423344, 430227734, 506948616, 659060556, 883997877, 958139571, 1322822218, 1537002063, 1747873779, 1955562222, 2024104815, 2227730452, 2361852424, 2428436474, 2756734187, 3204031479, 3329325298]
theorem KSc_length : KSc.length = 64 := by decide +kernel
theorem sha_empty : shaF KSc [] = [227, 176, 196, 66, 152, 252, 28, 20, 154, 251, 244, 200, 153, 111, 185, 36, 39, 174, 65, 228, 100, 155, 147, 76, 164, 149, 153, 27, 120, 82, 184, 85] := by decide +kernel
theorem sha_abc : shaF KSc [97, 98, 99] = [186, 120, 22, 191, 143, 1, 207, 234, 65, 65, 64, 222, 93, 174, 34, 35, 176, 3, 97, 163, 150, 23, 122, 156, 180, 16, 255, 97, 242, 0, 21, 173] := by decide +kernel
theorem shaF_length (KS : List Int) (L : List UInt8) : (shaF KS L).length = 32 := by simp [shaF]

set_option maxRecDepth 100000 in
set_option maxHeartbeats 400000 in
theorem known_any (w : World) (hK : w.rangeAt 0 0 (cellsW KSc)) (h0 : 0 < w.heap.size) :
    Calls Tryd.prog 22 #[] w fun e w' => e = .returned (.bool true) ∧ Below w.heap.size w w' := by
  have s1 := sha_any KSc ⟨#[]⟩ w hK KSc_length (by decide)
  have e1 : shaF KSc (ByteArray.mk #[]).data.toList = [227, 176, 196, 66, 152, 252, 28, 20, 154, 251, 244, 200, 153, 111, 185, 36, 39, 174, 65, 228, 100, 155, 147, 76, 164, 149, 153, 27, 120, 82, 184, 85] := sha_empty
  rw [e1] at s1
  have H1 : Hid (Calls _ _ _ _ _) := s1
  have HK : Hid (w.rangeAt 0 0 (cellsW KSc)) := hK
  clear s1 e1 hK
  go_enter Tryd.func22, Tryd.ntmps22
  go_wp2_with fail
  refine H1.out.mono ?_
  rintro e w1 ⟨rfl, hb1⟩
  have s2 := sha_any KSc ⟨#[97, 98, 99]⟩ w1 (range_below hb1 h0 HK.out) KSc_length (by decide)
  have e2 : shaF KSc (ByteArray.mk #[97, 98, 99]).data.toList = [186, 120, 22, 191, 143, 1, 207, 234, 65, 65, 64, 222, 93, 174, 34, 35, 176, 3, 97, 163, 150, 23, 122, 156, 180, 16, 255, 97, 242, 0, 21, 173] := sha_abc
  rw [e2] at s2
  have H2 : Hid (Calls _ _ _ _ _) := s2
  have Hb1 : Hid (Below w.heap.size w w1) := hb1
  clear s2 e2 hb1
  go_wp2_with fail
  refine H2.out.mono ?_
  rintro e w2 ⟨rfl, hb2⟩
  have Hb2 : Hid (Below w.heap.size w w2) := Hb1.out.trans (hb2.mono Hb1.out.size)
  clear hb2
  go_wp2
  go_ret
  exact ⟨rfl, Hb2.out⟩

end Go.Proofs.YtkmoglhgkcnalaaDoor
