/- slices.Sort and slices.Compact at a row of texts of the call's own. -/
import Derived.Test.YtjbompimlopdiaaGreatDoorTexts
import Derived.Test.YtjbompimlopdiaaGreatDoorSetM
import Derived.Test.YtjbompimlopdiaaGreatDoorShelf
namespace Go.Proofs.YtjbompimlopdiaaGreatDoor.srt
open Go.ChangeShapes Go.WideShapes Go.ChangeAt Go.RowKit Go.Proofs.Aid Go.Lib
open Go.Sort
open Go.Proofs.YtjbompimlopdiaaGreatDoor.texts (tc)
def data (xs : List ByteArray) : List (List UInt8) := xs.map (·.data.toList)
theorem holds_of_row {w : World} {base g n c : Nat} {e : TypeId} {xs : List ByteArray} (h : Row w base e 1 tc (.slice (some ⟨g, 0, none⟩) n c) xs) : Holds encStr w g 0 (data xs).toArray := by
  intro j hj
  have hj' : j < xs.length := by simpa [data] using hj
  obtain ⟨h1, h2⟩ := Row1.cell (q := Value.string) h hj'
  rw [Nat.zero_add]
  refine ⟨?_, h2⟩
  rw [h1]
  congr 1
  rw [getElem!_pos _ j hj]
  simp [data, encStr]
theorem below_mapBlock {B : Nat} {W w : World} (h : Go.RowKit.Below B W w) {blk : Nat} (hb : B ≤ blk) (f : Array Value → Array Value) : Go.RowKit.Below B W (mapBlock w blk f) :=
  ⟨h.os, h.tape, h.output, by show _ ≤ (w.heap.modify blk _).size; rw [Array.size_modify]; exact h.size, fun i hi => by
    show (w.heap.modify blk _)[i]? = _
    rw [Array.getElem?_modify, if_neg (by omega)]
    exact h.block i hi⟩
theorem below_putRow {α : Type} [Inhabited α] {B : Nat} {W w : World} (h : Go.RowKit.Below B W w) {blk : Nat} (hb : B ≤ blk) (enc : α → Value) (off : Nat) (d : Array α) : Go.RowKit.Below B W (putRow enc w blk off d) := below_mapBlock h hb _
theorem below_ahead {B : Nat} {W w : World} (h : Go.RowKit.Below B W w) (n : Nat) : Go.RowKit.Below B W (Go.Sort.ahead w n) := ⟨h.os, h.tape, h.output, h.size, h.block⟩
theorem below_grow' {B : Nat} {W w : World} (h : Go.RowKit.Below B W w) (os : Array Obj) (hB : B ≤ w.heap.size) : Go.RowKit.Below B W (grow w os) :=
  ⟨h.os, h.tape, h.output, by show _ ≤ (w.heap ++ os).size; rw [Array.size_append]; exact Nat.le_trans h.size (Nat.le_add_right _ _), fun i hi => by rw [heap_grow_old w os (Nat.lt_of_lt_of_le hi hB)]; exact h.block i hi⟩
/-- A row of texts, by their bytes. -/
theorem reads_of_holds {w : World} {g : Nat} {zs : List (List UInt8)} (h : Holds encStr w g 0 zs.toArray) (hg : g < w.heap.size) (k : Nat) (hk : k ≤ zs.length) :
    Reads w w.heap.size 1 (some ⟨g, 0, none⟩) k (((zs.take k).map fun l => (⟨l.toArray⟩ : ByteArray)).flatMap tc) := by
  refine ⟨?_, fun _ => ⟨_, rfl, hg, fun j u hu => ?_⟩⟩
  · rw [flatLen (f := tc) (size := 1) (fun _ => rfl)]; simp; omega
  · have hm : ((zs.take k).map fun l => (⟨l.toArray⟩ : ByteArray)).flatMap tc = ((zs.take k).map fun l => (⟨l.toArray⟩ : ByteArray)).map Value.string := map_flat Value.string _
    rw [hm, List.getElem?_map, List.getElem?_map] at hu
    have hj : j < zs.length := by
      rcases Nat.lt_or_ge j zs.length with h' | h'
      · exact h'
      · rw [List.getElem?_eq_none (by rw [List.length_take]; omega)] at hu; simp at hu
    have hj2 : j < k := by
      rcases Nat.lt_or_ge j k with h' | h'
      · exact h'
      · rw [List.getElem?_eq_none (by rw [List.length_take]; omega)] at hu; simp at hu
    rw [List.getElem?_take_of_lt hj2, List.getElem?_eq_getElem hj] at hu
    obtain ⟨h1, -⟩ := h j (by simpa using hj)
    rw [Nat.zero_add, getElem!_pos _ j (by simpa using hj)] at h1
    have he : encStr zs.toArray[j] = u := by
      simp at hu
      rw [← hu]; simp [encStr]
    have : ((⟨g, 0, none⟩ : Addr).add j) = ⟨g, j, none⟩ := by
      unfold Addr.add
      by_cases h0 : j = 0
      · subst h0; rfl
      · simp [h0]
    rw [this, h1, he]
end Go.Proofs.YtjbompimlopdiaaGreatDoor.srt
