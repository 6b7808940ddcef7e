/- Putting a bit into a text: one byte changed, behind as many zeros as it asks. Plain facts: no Go text here. -/
import Derived.Test.YtnpkegmkmhambaaWdA
import Derived.Lib.Repeat
namespace Go.Proofs.Ytnpkegmkmhambaa.wd
open Go.RowKit

/-- a text that has a byte q -/
def padT (s : ByteArray) (q : Nat) : ByteArray := ⟨s.data ++ (List.replicate (q + 1 - s.size) (0 : UInt8)).toArray⟩
/-- a byte's bit r from the top is b -/
def flip1 (x r b : Nat) : Nat := x - x / 2 ^ (7 - r) % 2 * 2 ^ (7 - r) + b * 2 ^ (7 - r)
def putT (s : ByteArray) (k b : Nat) : ByteArray := ⟨((padT s (k / 8)).data.toList.set (k / 8) (UInt8.ofNat (flip1 (byt s (k / 8)) (k % 8) b))).toArray⟩
/-- the bytes of a text as numbers -/
def nx (s : ByteArray) : List Int := s.data.toList.map fun c => (c.toNat : Int)

set_option maxRecDepth 100000 in
theorem flip_or : ∀ r < 8, ∀ b < 2, ∀ x < 256, (x &&& (255 - 2 ^ (7 - r))) ||| (b * 2 ^ (7 - r)) = flip1 x r b := by decide +kernel
set_option maxRecDepth 100000 in
theorem flip_lt : ∀ r < 8, ∀ b < 2, ∀ x < 256, flip1 x r b < 256 := by decide +kernel
set_option maxRecDepth 100000 in
theorem flip_bit : ∀ r < 8, ∀ j < 8, ∀ b < 2, ∀ x < 256, flip1 x r b / 2 ^ (7 - j) % 2 = if j = r then b else x / 2 ^ (7 - j) % 2 := by decide +kernel
theorem two_le {r : Nat} (_h : r < 8) : 2 ^ (7 - r) ≤ 128 := by
  have : (2 : Nat) ^ (7 - r) ≤ 2 ^ 7 := Nat.pow_le_pow_right (by decide) (by omega)
  omega
theorem flip_u8 {x r b : Nat} (hr : r < 8) (hb : b < 2) (hx : x < 256) : bits .or .u8 (bits .andNot .u8 (x : Int) ((2 ^ (7 - r) : Nat) : Int)) ((b * 2 ^ (7 - r) : Nat) : Int) = (flip1 x r b : Int) := by
  have h2 := two_le hr
  have hb2 : b * 2 ^ (7 - r) < 256 := by
    rcases (by omega : b = 0 ∨ b = 1) with rfl | rfl <;> omega
  have ha : x &&& (255 - 2 ^ (7 - r)) < 256 := Nat.lt_of_le_of_lt Nat.and_le_left hx
  rw [u8_andNot_nat _ _ hx (by omega), u8_or_nat _ _ ha hb2, flip_or r hr b hb x hx]
theorem padT_size (s : ByteArray) (q : Nat) : (padT s q).size = max s.size (q + 1) := by
  have h : (padT s q).size = s.size + (q + 1 - s.size) := by
    unfold padT ByteArray.size
    simp
  omega
theorem putT_size (s : ByteArray) (k b : Nat) : (putT s k b).size = max s.size (k / 8 + 1) := by
  unfold putT
  show (List.toArray _).size = _
  rw [List.size_toArray, List.length_set, Array.length_toList]
  exact padT_size s _
theorem padT_at (s : ByteArray) (q i : Nat) : byt (padT s q) i = byt s i := by
  unfold byt padT
  dsimp only
  rcases Nat.lt_or_ge i s.data.size with h | h
  · rw [Array.getElem?_append_left h]
  · rw [Array.getElem?_append_right h, Array.getElem?_eq_none h]
    rcases Nat.lt_or_ge (i - s.data.size) (q + 1 - s.size) with h2 | h2
    · rw [Array.getElem?_eq_getElem (by simpa using h2)]; simp
    · rw [Array.getElem?_eq_none (by simpa using h2)]
theorem byt_putT (s : ByteArray) {k b i : Nat} (hb : b < 2) : byt (putT s k b) i = if i = k / 8 then flip1 (byt s (k / 8)) (k % 8) b else byt s i := by
  have hf := flip_lt (k % 8) (Nat.mod_lt _ (by decide)) b hb (byt s (k / 8)) (byt_lt s _)
  have hs : k / 8 < (padT s (k / 8)).data.toList.length := by
    rw [Array.length_toList]
    have := padT_size s (k / 8)
    show _ < (padT s (k / 8)).size
    omega
  rw [← padT_at s (k / 8) i]
  unfold putT
  generalize flip1 (byt s (k / 8)) (k % 8) b = z at *
  generalize padT s (k / 8) = t at *
  unfold byt
  dsimp only
  rw [List.getElem?_toArray, List.getElem?_set]
  by_cases e : i = k / 8
  · subst e
    rw [if_pos rfl, if_pos rfl, if_pos hs]
    simp
    omega
  · rw [if_neg (fun h => e h.symm), if_neg e, Array.getElem?_toList]
theorem bit_putT (s : ByteArray) {k b : Nat} (hb : b < 2) (i : Nat) : bit (putT s k b) i = if i = k then b else bit s i := by
  unfold bit
  rw [byt_putT s hb]
  by_cases e : i / 8 = k / 8
  · rw [if_pos e, flip_bit (k % 8) (Nat.mod_lt _ (by decide)) (i % 8) (Nat.mod_lt _ (by decide)) b hb _ (byt_lt s _)]
    by_cases e2 : i % 8 = k % 8
    · rw [if_pos e2, if_pos (by omega)]
    · rw [if_neg e2, if_neg (by intro h; subst h; exact e2 rfl), e]
  · rw [if_neg e, if_neg (by intro h; subst h; exact e rfl)]
/-- put back: the bits are as they were -/
theorem bit_back (s : ByteArray) {k b : Nat} (hb : b < 2) (i : Nat) : bit (putT (putT s k b) k (bit s k)) i = bit s i := by
  rw [bit_putT _ (bit_lt s k), bit_putT s hb]
  by_cases e : i = k
  · subst e; simp
  · rw [if_neg e, if_neg e]
theorem nx_len (s : ByteArray) : (nx s).length = s.size := by unfold nx; rw [List.length_map, Array.length_toList]; rfl
theorem nx_at (s : ByteArray) {i : Nat} (h : i < s.size) : (nx s).getD i 0 = (byt s i : Int) := by
  unfold nx byt
  have h2 : i < s.data.size := h
  rw [List.getD_eq_getElem?_getD, List.getElem?_map, Array.getElem?_toList, Array.getElem?_eq_getElem h2]
  rfl
/-- the text of these numbers, one of them changed -/
theorem put_text (s : ByteArray) (k b : Nat) : (((nx (padT s (k / 8))).set (k / 8) (flip1 (byt s (k / 8)) (k % 8) b : Int)).map fun n => UInt8.ofNat n.toNat).toArray = (putT s k b).data := by
  unfold putT nx
  dsimp only
  rw [List.map_set, List.map_map]
  congr 1
  simp
  congr 1
  conv => rhs; rw [← List.map_id (padT s (k / 8)).data.toList]
  refine List.map_congr_left fun c _ => ?_
  simp
end Go.Proofs.Ytnpkegmkmhambaa.wd
