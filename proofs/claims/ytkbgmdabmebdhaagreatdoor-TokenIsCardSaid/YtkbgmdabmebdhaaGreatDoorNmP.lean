/- Keys, places, paths and their parts: the program's and the reference's. -/
import Derived.Test.YtkbgmdabmebdhaaGreatDoorNmN
import Derived.Test.YtkbgmdabmebdhaaGreatDoorSegM
import Derived.Test.YtkbgmdabmebdhaaGreatDoorRegU
import Derived.Test.YtkbgmdabmebdhaaGreatDoorTexts
namespace Go.Proofs.YtkbgmdabmebdhaaGreatDoor.nm
open Go.ChangeShapes Go.WideShapes Go.ChangeAt Go.RowKit Go.Proofs.Aid Go.Proofs.YtkbgmdabmebdhaaGreatDoor.seg Go.Proofs.YtkbgmdabmebdhaaGreatDoor.name Go.Proofs.YtkbgmdabmebdhaaGreatDoor.texts
def isKey (n : Nat) : Bool := decide (1 ≤ n) && decide (n ≤ 64)
theorem nm_bool {a b : Bool} (h : a = b) : Ending.returned (.bool a) = .returned (.bool b) := by rw [h]
theorem empty_of {s : ByteArray} (h : s.size = 0) : s = ByteArray.empty := by
  apply ByteArray.ext; apply Array.eq_empty_of_size_eq_zero; exact h
theorem ne_empty {s : ByteArray} (h : ¬ s.size = 0) : s.toList.isEmpty = false := by
  have : ¬ s.toList = [] := fun e => h (by rw [Lib.toList_data] at e; have := congrArg List.length e; simpa using this)
  simpa using this
/-- Texts with a slash between each two. -/
def joinS (xs : List ByteArray) : ByteArray := ⟨(Lib.join (xs.map (·.data.toList)) [47]).toArray⟩
theorem joinS_list (xs : List ByteArray) : (joinS xs).data.toList = Lib.join (xs.map (·.data.toList)) [47] := rfl
theorem cell_spot {w : World} {a : Addr} {u : Value} (h : w.cell? a = some u) : a.spot = none := by
  unfold World.cell? at h
  split at h
  · split at h
    · cases h
    · rename_i hs; simpa using hs
  · cases h
set_option maxHeartbeats 1000000 in
theorem path_any (w : World) (A : Option Addr) (c : Nat) (xs : List ByteArray) (hR : Reads w w.heap.size 1 A xs.length (xs.flatMap tc)) (hc : xs.length ≤ c) (hN : xs.length ≤ 140737488355328) (hl : (joinS xs).data.toList.length ≤ 140737488355328) :
    Calls Tryz.prog 73 #[.slice A xs.length c] w fun e w' => e = .returned (.string (joinS xs)) ∧ Below w.heap.size w w' := by
  have hJ : Hid (Calls Tryz.prog 85 #[.slice A xs.length c, .string ⟨#[47]⟩] w fun e w' => e = .returned (.string (joinS xs)) ∧ Below w.heap.size w w') := by
    by_cases h0 : xs.length = 0
    · have hx := List.length_eq_zero_iff.1 h0
      subst hx
      refine (Tryz.strings_Join_none A c ⟨#[47]⟩ w).mono ?_
      rintro e w1 ⟨rfl, rfl⟩
      exact ⟨rfl, Below.refl _ _⟩
    · obtain ⟨ad, rfl, hb, h1⟩ := hR.2 (by omega)
      have hat : ∀ (j : Nat) x, xs[j]? = some x → w.cell? (ad.add j) = some (.string x) := fun j x hx => h1 j _ (by
        have hm : xs.flatMap tc = xs.map Value.string := map_flat Value.string xs
        rw [hm, List.getElem?_map, hx]; rfl)
      have hsp : (ad.add 0).spot = none := cell_spot (hat 0 xs[0] (List.getElem?_eq_getElem (by omega)))
      obtain ⟨b, o, sp⟩ := ad
      have hsn : sp = none := by simpa [Addr.add] using hsp
      subst hsn
      exact Tryz.strings_Join b o c xs ⟨#[47]⟩ w (fun j x hx => by
        have := hat j x hx
        unfold Addr.add at this
        by_cases hj : j = 0
        · subst hj; simpa using this
        · simpa [hj] using this) hb hN hc hl
  go_enter Tryz.func73, Tryz.ntmps73
  go_wp2_with fail
  refine hJ.out.mono ?_
  rintro e w1 ⟨rfl, hb1⟩
  have hb1 := Lib.hid hb1
  go_wp2
  go_ret
  exact ⟨rfl, hb1.out⟩
end Go.Proofs.YtkbgmdabmebdhaaGreatDoor.nm
