/- Numbers as bytes, the greatest one first: plain lists. -/
import Derived.Test.YtkbgmdabmebdhaaGreatDoorAid
import Derived.Laws.BitsLemmas
namespace Go.Proofs.YtkbgmdabmebdhaaGreatDoor.oc
open Go
/-- The byte at place j, counted from the lowest. -/
def bAt (n : Int) (j : Nat) : Int := n / 2 ^ (8 * j) % 256
theorem bAt_bd (n : Int) (j : Nat) : 0 ≤ bAt n j ∧ bAt n j < 256 := ⟨Int.emod_nonneg _ (by decide), Int.emod_lt_of_pos _ (by decide)⟩
/-- The m lowest bytes. -/
def be (m : Nat) (n : Int) : List UInt8 := (List.range m).map fun k => UInt8.ofNat (bAt n (m - 1 - k)).toNat
theorem be_length (m : Nat) (n : Int) : (be m n).length = m := by simp [be]
theorem be_cell {m : Nat} {n : Int} {j : Nat} (h : j < (be m n).length) : (((be m n)[j]).toNat : Int) = bAt n (m - 1 - j) := by
  have := bAt_bd n (m - 1 - j)
  simp only [be, List.getElem_map, List.getElem_range]
  rw [UInt8.toNat_ofNat']
  omega
/-- The number of bytes. -/
def numB (l : List UInt8) : Int := l.foldl (fun n c => bits .or .i64 (IntKind.i64.wrap (n * 256)) c.toNat) 0
theorem numB_snoc (l : List UInt8) (c : UInt8) : numB (l ++ [c]) = bits .or .i64 (IntKind.i64.wrap (numB l * 256)) c.toNat := by simp [numB]
theorem toNat_two64 (x : Int) : ((BitVec.ofInt 64 x).toNat : Int) = x % 18446744073709551616 := by
  rw [BitVec.toNat_ofInt]
  have := Int.emod_nonneg x (show (18446744073709551616 : Int) ≠ 0 by decide)
  show ((x % 18446744073709551616).toNat : Int) = _
  omega
theorem or_byte (v c : Int) (h0 : 0 ≤ c) (h1 : c < 256) : bits .or .i64 (IntKind.i64.wrap (v * 256)) c = IntKind.i64.wrap (v * 256 + c) := by
  show IntKind.i64.wrap ((BitVec.ofInt 64 (IntKind.i64.wrap (v * 256)) ||| BitVec.ofInt 64 c).toNat : Int) = _
  rw [BitVec.toNat_or]
  have e1 := toNat_two64 (IntKind.i64.wrap (v * 256))
  have e2 := toNat_two64 c
  generalize (BitVec.ofInt 64 (IntKind.i64.wrap (v * 256))).toNat = A at *
  generalize (BitVec.ofInt 64 c).toNat = C at *
  simp only [IntKind.wrap_i64] at e1 ⊢
  have hC : C < 2 ^ 8 := by omega
  obtain ⟨q, hq⟩ : ∃ q, A = 2 ^ 8 * q := ⟨A / 256, by omega⟩
  subst hq
  rw [← Nat.two_pow_add_eq_or_of_lt hC q]
  omega
def numU (l : List UInt8) : Int := l.foldl (fun n c => n * 256 + c.toNat) 0
theorem byte_lt (c : UInt8) : (c.toNat : Int) < 256 := by have := c.toNat_lt; omega
theorem wrap_step (u : Int) (c : Int) : IntKind.i64.wrap (IntKind.i64.wrap u * 256 + c) = IntKind.i64.wrap (u * 256 + c) := by
  simp only [IntKind.wrap_i64]; omega
theorem fold_wrap : ∀ (l : List UInt8) (u : Int), l.foldl (fun n c => bits .or .i64 (IntKind.i64.wrap (n * 256)) c.toNat) (IntKind.i64.wrap u) = IntKind.i64.wrap (l.foldl (fun n c => n * 256 + (c.toNat : Int)) u)
  | [], _ => rfl
  | c :: l, u => by
    rw [List.foldl_cons, List.foldl_cons, or_byte _ _ (by omega) (byte_lt c), wrap_step, fold_wrap l]
theorem numB_u (l : List UInt8) : numB l = IntKind.i64.wrap (numU l) := fold_wrap l 0
theorem fold_bd : ∀ (l : List UInt8) (u M : Int), 0 ≤ u → u < M → 0 ≤ l.foldl (fun n c => n * 256 + (c.toNat : Int)) u ∧ l.foldl (fun n c => n * 256 + (c.toNat : Int)) u < M * 256 ^ l.length
  | [], u, M, h0, h1 => by simpa using ⟨h0, h1⟩
  | c :: l, u, M, h0, h1 => by
    have hc := byte_lt c
    have := fold_bd l (u * 256 + (c.toNat : Int)) (M * 256) (by omega) (by omega)
    rw [List.foldl_cons, List.length_cons, Int.pow_succ, Int.mul_comm (256 ^ l.length) 256, ← Int.mul_assoc]
    exact this
theorem numB_four (l : List UInt8) (h : l.length ≤ 4) : numB l = numU l ∧ 0 ≤ numU l ∧ numU l < 4294967296 := by
  obtain ⟨h0, h1⟩ := fold_bd l 0 1 (by decide) (by decide)
  have h2 : (1 : Int) * 256 ^ l.length ≤ 4294967296 := by
    match l.length, h with
    | 0, _ => decide
    | 1, _ => decide
    | 2, _ => decide
    | 3, _ => decide
    | 4, _ => decide
  have h0 : 0 ≤ numU l := h0
  have h1 : numU l < 1 * 256 ^ l.length := h1
  refine ⟨?_, h0, by omega⟩
  rw [numB_u, IntKind.wrap_i64]; omega
theorem u8_back (n : Int) (j : Nat) : ((UInt8.ofNat (bAt n j).toNat).toNat : Int) = bAt n j := by
  have := bAt_bd n j
  rw [UInt8.toNat_ofNat']; omega
theorem be4_back (n : Int) (h0 : 0 ≤ n) (h1 : n < 4294967296) : numB (be 4 n) = n := by
  rw [(numB_four _ (by rw [be_length]; decide)).1]
  have e : be 4 n = [UInt8.ofNat (bAt n 3).toNat, UInt8.ofNat (bAt n 2).toNat, UInt8.ofNat (bAt n 1).toNat, UInt8.ofNat (bAt n 0).toNat] := rfl
  rw [e]
  simp only [numU, List.foldl_cons, List.foldl_nil, u8_back]
  simp only [bAt, Nat.mul_one, Nat.mul_zero, Int.reducePow, Nat.reduceMul]
  omega
theorem be8_back (n : Int) (h0 : -9223372036854775808 ≤ n) (h1 : n ≤ 9223372036854775807) : numB (be 8 n) = n := by
  rw [numB_u]
  have e : be 8 n = [UInt8.ofNat (bAt n 7).toNat, UInt8.ofNat (bAt n 6).toNat, UInt8.ofNat (bAt n 5).toNat, UInt8.ofNat (bAt n 4).toNat, UInt8.ofNat (bAt n 3).toNat, UInt8.ofNat (bAt n 2).toNat, UInt8.ofNat (bAt n 1).toNat, UInt8.ofNat (bAt n 0).toNat] := rfl
  rw [e]
  simp only [numU, List.foldl_cons, List.foldl_nil, u8_back, IntKind.wrap_i64]
  simp only [bAt, Nat.mul_one, Nat.mul_zero, Int.reducePow, Nat.reduceMul]
  omega
/-- The bytes of a text, and of a list of texts. -/
def teB (s : ByteArray) : List UInt8 := be 4 s.size ++ s.data.toList
def tesB (l : List ByteArray) : List UInt8 := be 4 l.length ++ l.flatMap teB
theorem teB_length (s : ByteArray) : (teB s).length = 4 + s.size := by simp [teB, be_length]
theorem flat_len {m : Nat} : ∀ (l : List ByteArray), (∀ s ∈ l, s.size ≤ m) → (l.flatMap teB).length ≤ l.length * (4 + m)
  | [], _ => by simp
  | s :: l, h => by
    rw [List.flatMap_cons, List.length_append, teB_length, List.length_cons, Nat.succ_mul]
    have := flat_len l (fun t ht => h t (by simp [ht]))
    have := h s (by simp)
    omega
theorem flat_take (l : List ByteArray) (k : Nat) (h : k < l.length) : (l.take (k + 1)).flatMap teB = (l.take k).flatMap teB ++ teB l[k] := by
  rw [List.take_succ_eq_append_getElem h, List.flatMap_append, List.flatMap_cons, List.flatMap_nil, List.append_nil]
end Go.Proofs.YtkbgmdabmebdhaaGreatDoor.oc
