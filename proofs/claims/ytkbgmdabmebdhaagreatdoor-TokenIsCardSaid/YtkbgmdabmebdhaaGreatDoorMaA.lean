/- The walks of mac: keys, the sum. -/
import Derived.Test.YtkbgmdabmebdhaaGreatDoorShE
import Derived.Lib.BufferWrite
import Derived.Laws.BitsAllLaws
namespace Go.Proofs.YtkbgmdabmebdhaaGreatDoor.mac
open Go.ChangeShapes Go.WideShapes Go.ChangeAt Go.RowKit Go.Proofs.Aid
open Go.Proofs.YtkbgmdabmebdhaaGreatDoor.oc (be be_length)
open Go.Proofs.YtkbgmdabmebdhaaGreatDoor.sha
set_option linter.unusedVariables false
/-! ### by numbers -/
def keyB (k : List UInt8) : List UInt8 := if k.length > 64 then shaB k else k
def padX (k : List UInt8) (p : UInt8) : List UInt8 := (List.range 64).map fun i => k.getD i 0 ^^^ p
def macB (k s : List UInt8) : List UInt8 := shaB (padX (keyB k) 92 ++ shaB (padX (keyB k) 54 ++ s))
theorem keyB_length (k : List UInt8) : (keyB k).length ≤ 64 := by
  unfold keyB
  split
  · rw [shaB_length]; decide
  · omega
theorem padX_length (k : List UInt8) (p : UInt8) : (padX k p).length = 64 := by simp [padX]
theorem macB_length (k s : List UInt8) : (macB k s).length = 32 := shaB_length _
theorem bIn {l : List UInt8} {i : Nat} (h : i < l.length) : l.getD i 0 = l[i] := by simp [h]
theorem bOut {l : List UInt8} {i : Nat} (h : l.length ≤ i) : l.getD i 0 = 0 := by simp [h]
/-- The cells of a key. -/
def bcell (l : List UInt8) : Array Value := ((List.range 64).map fun i => Value.int .u8 ((l.getD i 0).toNat : Int)).toArray
theorem bcell_size (l : List UInt8) : (bcell l).size = 64 := by simp [bcell]
theorem bcell_at {l : List UInt8} {i : Nat} (h : i < 64) : (bcell l)[i]? = some (.int .u8 ((l.getD i 0).toNat : Int)) := by simp [bcell, h]
theorem bcell_none {l : List UInt8} {i : Nat} (h : ¬ i < 64) : (bcell l)[i]? = none := by
  apply Array.getElem?_eq_none; rw [bcell_size]; omega
theorem bcell_set (l m : List UInt8) (i : Nat) (v : UInt8) (hv : m.getD i 0 = v) (hm : ∀ j, j ≠ i → m.getD j 0 = l.getD j 0) : (bcell l).setIfInBounds i (.int .u8 (v.toNat : Int)) = bcell m := by
  apply Array.ext_getElem?
  intro j
  rw [Array.getElem?_setIfInBounds, bcell_size]
  by_cases hj : j < 64
  · rw [bcell_at hj, bcell_at hj]
    by_cases e : i = j
    · subst e; rw [if_pos rfl, if_pos hj, hv]
    · rw [if_neg e, hm j (fun h => e h.symm)]
  · rw [bcell_none hj, bcell_none hj]
    by_cases e : i = j
    · subst e; simp [hj]
    · rw [if_neg e]
/-- The key when k bytes are made unlike. -/
def mixB (l : List UInt8) (p : UInt8) (k : Nat) : List UInt8 := (List.range 64).map fun i => if i < k then l.getD i 0 ^^^ p else l.getD i 0
theorem mixB_at (l : List UInt8) (p : UInt8) (k : Nat) {j : Nat} (h : j < 64) : (mixB l p k).getD j 0 = if j < k then l.getD j 0 ^^^ p else l.getD j 0 := by simp [mixB, h]
theorem mixB_out (l : List UInt8) (p : UInt8) (k : Nat) {j : Nat} (h : ¬ j < 64) : (mixB l p k).getD j 0 = 0 := by
  have : (mixB l p k).length ≤ j := by simp [mixB]; omega
  simp [this]
theorem mixB_zero (l : List UInt8) (p : UInt8) : bcell (mixB l p 0) = bcell l := by
  unfold bcell
  exact congrArg List.toArray (List.map_congr_left fun i hi => by rw [mixB_at _ _ _ (by simpa using hi), if_neg (by omega)])
theorem mixB_all (l : List UInt8) (p : UInt8) : mixB l p 64 = padX l p := by
  unfold mixB padX
  apply List.map_congr_left
  intro i hi
  rw [if_pos (by simpa using hi)]
theorem mixB_set (l : List UInt8) (p : UInt8) (k : Nat) (hk : k < 64) : (bcell (mixB l p k)).setIfInBounds k (.int .u8 ((l.getD k 0 ^^^ p).toNat : Int)) = bcell (mixB l p (k + 1)) := by
  refine bcell_set _ _ k _ ?_ fun j hj => ?_
  · rw [mixB_at _ _ _ hk, if_pos (by omega)]
  · by_cases h8 : j < 64
    · rw [mixB_at _ _ _ h8, mixB_at _ _ _ h8]
      by_cases h1 : j < k
      · rw [if_pos h1, if_pos (by omega)]
      · rw [if_neg h1, if_neg (by omega)]
    · rw [mixB_out _ _ _ h8, mixB_out _ _ _ h8]
theorem u8_xor (a b : UInt8) : bits .xor .u8 (a.toNat : Int) (b.toNat : Int) = ((a ^^^ b).toNat : Int) := by
  have h1 := a.toNat_lt
  have h2 := b.toNat_lt
  rw [UInt8.toNat_xor]
  exact u8_xor_nat _ _ h1 h2
theorem zero31 (w : World) : (zeroValue 86).run Tryz.prog w = .ok (.agg (bcell [])) w := by kernel_rfl
theorem info31 : (Tryz.prog.info? 86).map (·.size) = some 64 := by kernel_rfl
theorem info5 : (Tryz.prog.info? 5).map (·.size) = some 1 := by kernel_rfl
theorem bcell_one (l : List UInt8) : (bcell l).all (·.oneCell') = true := by
  rw [Array.all_eq_true]
  intro i hi
  simp [bcell, Value.oneCell']
theorem copied (s : ByteArray) (hs : s.size ≤ 64) : ((bcell []).toList.take 0 ++ Lib.byteCells s.data.toList ++ (bcell []).toList.drop (0 + s.size)).toArray = bcell s.data.toList := by
  apply Array.ext_getElem?
  intro j
  have hl : (Lib.byteCells s.data.toList).length = s.size := by rw [Lib.byteCells_length]; simp
  have hsz : s.data.toList.length = s.size := by simp
  rw [List.take_zero, List.nil_append, Nat.zero_add, List.getElem?_toArray]
  by_cases h1 : j < s.size
  · rw [List.getElem?_append_left (by omega), bcell_at (by omega)]
    have h2 : j < s.data.toList.length := by omega
    simp only [Lib.byteCells, List.getElem?_map, List.getElem?_eq_getElem h2]
    rw [bIn h2]
    rfl
  · rw [List.getElem?_append_right (by omega), hl, List.getElem?_drop, Array.getElem?_toList, show s.size + (j - s.size) = j by omega]
    by_cases h3 : j < 64
    · rw [bcell_at h3, bcell_at h3]
      have h4 : s.data.toList.length ≤ j := by omega
      rw [bOut h4]
      rfl
    · rw [bcell_none h3, bcell_none h3]
def MStr (b : List UInt8) (w : World) (e : Ending) (w' : World) : Prop := e = .returned (.string ⟨b.toArray⟩) ∧ Below w.heap.size w w'
end Go.Proofs.YtkbgmdabmebdhaaGreatDoor.mac
