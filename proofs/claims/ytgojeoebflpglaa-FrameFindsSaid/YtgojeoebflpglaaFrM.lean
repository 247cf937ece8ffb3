/- Frames: plain. -/
import Derived.Test.YtgojeoebflpglaaOcN
import Derived.Test.YtgojeoebflpglaaCrN
namespace Go.Proofs.Ytgojeoebflpglaa.fr
set_option linter.unusedSimpArgs false
set_option linter.unusedVariables false
open Go.ChangeShapes Go.WideShapes Go.ChangeAt Go.RowKit Go.Proofs.Aid
open Go.Proofs.Ytgojeoebflpglaa.oc Go.Proofs.CrcMath
/-- The sum of a record, its head, its frame; the frames of records. -/
def sumB (s : ByteArray) : Nat := cmore 0 (be 4 s.size ++ s.data.toList)
def headB (s : ByteArray) : List UInt8 := be 4 s.size ++ be 4 (sumB s : Nat)
def frB (s : ByteArray) : List UInt8 := headB s ++ s.data.toList
def frsB (l : List ByteArray) : List UInt8 := l.flatMap frB
theorem headB_len (s : ByteArray) : (headB s).length = 8 := by simp [headB, be_length]
theorem frB_len (s : ByteArray) : (frB s).length = 8 + s.size := by simp [frB, headB_len]
theorem frs_len {m : Nat} : ∀ (l : List ByteArray), (∀ s ∈ l, s.size ≤ m) → (frsB l).length ≤ l.length * (8 + m)
  | [], _ => by simp [frsB]
  | s :: l, h => by
    have ih := frs_len l (fun t ht => h t (by simp [ht]))
    have hs := h s (by simp)
    unfold frsB at ih ⊢
    rw [List.flatMap_cons, List.length_append, frB_len, List.length_cons, Nat.succ_mul]
    omega
theorem frs_take (l : List ByteArray) (k : Nat) (h : k < l.length) : frsB (l.take (k + 1)) = frsB (l.take k) ++ frB l[k] := by
  unfold frsB
  rw [List.take_succ_eq_append_getElem h, List.flatMap_append, List.flatMap_cons, List.flatMap_nil, List.append_nil]
/-- The first record of frames, if it is whole. -/
def firstS (x : ByteArray) : Option ByteArray :=
  match (countS 4294967295 (countS 1048576 (some x)).2).2 with
  | none => none
  | some r => if (countS 1048576 (some x)).1 ≤ r.size ∧ (cmore 0 (be 4 (countS 1048576 (some x)).1 ++ (r.extract 0 (countS 1048576 (some x)).1.toNat).data.toList) : Int) = (countS 4294967295 (countS 1048576 (some x)).2).1 then some (r.extract 0 (countS 1048576 (some x)).1.toNat) else none
theorem numS_some {m : Nat} {x : ByteArray} {r : ByteArray} (h : (numS m (some x)).2 = some r) : m ≤ x.size ∧ r = x.extract m x.size ∧ (numS m (some x)).1 = numB (x.extract 0 m).data.toList := by
  unfold numS at h ⊢
  by_cases hl : (m : Int) ≤ x.size
  · have e : takeS m (some x) = (x.extract 0 (m : Int).toNat, some (x.extract (m : Int).toNat x.size)) := if_pos hl
    rw [e] at h ⊢
    simp only [Int.toNat_natCast] at h ⊢
    injection h with h
    exact ⟨by omega, h.symm, by trivial⟩
  · have e : takeS m (some x) = (⟨#[]⟩, none) := if_neg hl
    rw [e] at h; cases h
theorem countS_some {most : Int} {st : St} {r : ByteArray} (h : (countS most st).2 = some r) : countS most st = numS 4 st := by
  unfold countS at h ⊢
  split at h
  · cases h
  · rename_i hn; rw [if_neg hn]
theorem u8_of (c : UInt8) (x : Int) (h : x = c.toNat) : UInt8.ofNat x.toNat = c := by
  subst h; simp
theorem be4_of (a b c d : UInt8) : be 4 (numB [a, b, c, d]) = [a, b, c, d] := by
  rw [(numB_four [a, b, c, d] (by simp)).1]
  have e : ∀ n, be 4 n = [UInt8.ofNat (bAt n 3).toNat, UInt8.ofNat (bAt n 2).toNat, UInt8.ofNat (bAt n 1).toNat, UInt8.ofNat (bAt n 0).toNat] := fun n => rfl
  have ha := byte_lt a; have hb := byte_lt b; have hc := byte_lt c; have hd := byte_lt d
  rw [e]
  simp only [numU, List.foldl_cons, List.foldl_nil]
  rw [u8_of a, u8_of b, u8_of c, u8_of d] <;> (simp only [bAt, Nat.mul_one, Nat.mul_zero, Int.reducePow, Nat.reduceMul]; omega)
theorem be4_list (l : List UInt8) (h : l.length = 4) : be 4 (numB l) = l := by
  match l, h with
  | [a, b, c, d], _ => exact be4_of a b c d
theorem head8 {x r : ByteArray} (h : (countS 4294967295 (countS 1048576 (some x)).2).2 = some r) :
    8 ≤ x.size ∧ r = x.extract 8 x.size ∧ be 4 (countS 1048576 (some x)).1 = (x.extract 0 4).data.toList := by
  cases h1 : (countS 1048576 (some x)).2 with
  | none => rw [h1] at h; rw [countS_some h] at h; cases h
  | some y =>
    rw [h1] at h
    have e1 := countS_some h1
    rw [e1] at h1 ⊢
    obtain ⟨a1, a2, a3⟩ := numS_some h1
    have e2 := countS_some h
    rw [e2] at h
    obtain ⟨b1, b2, b3⟩ := numS_some h
    have hy : y.size = x.size - 4 := by rw [a2, ByteArray.size_extract]; omega
    refine ⟨by omega, ?_, ?_⟩
    · apply ba_list
      rw [b2, a2, Lib.extract_data, Lib.extract_data, Lib.extract_data, ByteArray.size_extract]
      rw [List.take_of_length_le (by simp), List.take_of_length_le (by simp), List.drop_drop, List.take_of_length_le (by simp)]
    · rw [a3, be4_list]
      rw [Lib.extract_data, List.drop_zero, List.length_take]
      have : x.data.toList.length = x.size := by simp
      omega
theorem first_fit {x b : ByteArray} (h : firstS x = some b) : 8 + b.size ≤ x.size := by
  unfold firstS at h
  split at h
  · cases h
  · rename_i r hr
    obtain ⟨h1, h2, h3⟩ := head8 hr
    split at h
    · rename_i hc
      injection h with h
      subst h
      rw [ByteArray.size_extract, h2, ByteArray.size_extract]
      omega
    · cases h
/-- The records that were found, and how many bytes they are, when k were asked for. -/
def nextF (s : ByteArray) (p : List ByteArray × Nat) : Option (List ByteArray × Nat) := (firstS (s.extract p.2 s.size)).map fun b => (p.1 ++ [b], p.2 + (8 + b.size))
def frun (s : ByteArray) : Nat → List ByteArray × Nat
  | 0 => ([], 0)
  | k + 1 => match nextF s (frun s k) with
    | none => frun s k
    | some q => q
def scanS (s : ByteArray) : List ByteArray × Nat := frun s s.size
theorem frun_stuck {s : ByteArray} {k : Nat} (h : nextF s (frun s k) = none) : ∀ j, frun s (k + j) = frun s k
  | 0 => rfl
  | j + 1 => by
    have ih := frun_stuck h j
    rw [← Nat.add_assoc, frun, ih, h]
/-- What is known when k records were found. -/
def Got (s : ByteArray) (k : Nat) (L : List ByteArray) (at_ : Nat) : Prop := frun s k = (L, at_) ∧ L.length = k ∧ k * 8 ≤ at_ ∧ at_ ≤ s.size
theorem Got.zero (s : ByteArray) : Got s 0 [] 0 := ⟨rfl, rfl, by omega, by omega⟩
theorem Got.stop {s : ByteArray} {k at_ : Nat} {L : List ByteArray} (h : Got s k L at_) (hn : firstS (s.extract at_ s.size) = none) : scanS s = (L, at_) := by
  obtain ⟨h1, h2, h3, h4⟩ := h
  have hs : nextF s (frun s k) = none := by rw [h1]; unfold nextF; rw [hn]; rfl
  have := frun_stuck hs (s.size - k)
  unfold scanS
  rw [← h1, ← this]
  congr 1; omega
theorem Got.next {s b : ByteArray} {k at_ : Nat} {L : List ByteArray} (h : Got s k L at_) (hn : firstS (s.extract at_ s.size) = some b) : Got s (k + 1) (L ++ [b]) (at_ + (8 + b.size)) := by
  obtain ⟨h1, h2, h3, h4⟩ := h
  have hf := first_fit hn
  rw [ByteArray.size_extract] at hf
  refine ⟨?_, by simp [h2], by omega, by omega⟩
  have : nextF s (frun s k) = some (L ++ [b], at_ + (8 + b.size)) := by rw [h1]; unfold nextF; rw [hn]; rfl
  rw [frun, this]
end Go.Proofs.Ytgojeoebflpglaa.fr
