/- Texts joined by the reference; two texts joined; a path's parts. -/
import Derived.Test.YtjbompimlopdiaaGreatDoorNmP
import Derived.Lib.Split
import Derived.Lib.SplitLaws
namespace Go.Proofs.YtjbompimlopdiaaGreatDoor.nm
open Go.ChangeShapes Go.WideShapes Go.ChangeAt Go.RowKit Go.Proofs.Aid Go.Proofs.YtjbompimlopdiaaGreatDoor.seg Go.Proofs.YtjbompimlopdiaaGreatDoor.name Go.Proofs.YtjbompimlopdiaaGreatDoor.texts
/-- A text, a slash, a text. -/
def slash (a b : ByteArray) : ByteArray := joinS [a, b]
theorem slash_list (a b : ByteArray) : (slash a b).data.toList = a.data.toList ++ [47] ++ b.data.toList := by
  show Lib.join _ _ = _
  simp [Lib.join]
theorem slash_cat (a b : ByteArray) : (a ++ ⟨#[47]⟩) ++ b = slash a b := by
  apply ByteArray.ext; apply Array.toList_inj.1
  rw [slash_list]; simp
theorem slash_size (a b : ByteArray) : (slash a b).size = a.size + 1 + b.size := by
  show (slash a b).data.size = _
  rw [← Array.length_toList, slash_list]
  simp; omega
/-- The reference's path of two. -/
def upTo (a b : ByteArray) (k : Nat) : ByteArray := if k = 0 then ⟨#[]⟩ else if k = 1 then a else slash a b
theorem empty_cat (a : ByteArray) : (⟨#[]⟩ : ByteArray) ++ a = a := by
  apply ByteArray.ext; apply Array.toList_inj.1; simp
def strs (l : List (List UInt8)) : List ByteArray := l.map fun x => ⟨x.toArray⟩
theorem strs_length (l : List (List UInt8)) : (strs l).length = l.length := by simp [strs]
def partsS (s : ByteArray) : List ByteArray := strs (parts s.data.toList)
/-- A slice that reads as the parts. -/
def PartsIs (s : ByteArray) (w : World) (e : Ending) (w' : World) : Prop :=
  ∃ A c, e = .returned (.slice A (partsS s).length c) ∧ (partsS s).length ≤ c ∧ Reads w' w'.heap.size 1 A (partsS s).length ((partsS s).flatMap tc) ∧ Below w.heap.size w w'
theorem splitB_parts {s : ByteArray} (h : ¬ s.size = 0) : Lib.splitB ⟨#[47]⟩ 0 (Lib.countB s ⟨#[47]⟩) s = partsS s := by
  have h1 := Lib.splitB_data ⟨#[47]⟩ 0 (Lib.countB s ⟨#[47]⟩) s
  have h2 : (⟨#[47]⟩ : ByteArray).data.toList = [47] := rfl
  have h3 : Lib.countB s ⟨#[47]⟩ = Lib.count s.data.toList [47] := rfl
  rw [h2, h3, split_segs] at h1
  have h4 : partsS s = strs (segs s.data.toList) := by
    unfold partsS parts
    rw [if_neg (by
      intro e
      apply h
      have := congrArg List.length e
      simpa using this)]
  rw [h4, h3, ← h1]
  unfold strs
  rw [List.map_map]
  conv => lhs; rw [← List.map_id (Lib.splitB _ _ _ _)]
  apply List.map_congr_left
  intro x _
  apply ByteArray.ext; simp
set_option maxHeartbeats 1000000 in
theorem parts_any (s : ByteArray) (w : World) (hs : s.size ≤ 1000000) (hL : Hid (Lets w)) :
    Calls Tryz.prog 30 #[.string s] w (PartsIs s w) := by
  by_cases h0 : s.size = 0
  · obtain rfl := empty_of h0
    have hp : partsS ByteArray.empty = [] := rfl
    go_enter Tryz.func30, Tryz.ntmps30
    go_wp2
    go_ret
    refine ⟨none, 0, ?_, ?_, ?_, Below.refl _ _⟩
    · rw [hp]; rfl
    · rw [hp]; simp
    · rw [hp]; exact Reads.none_
  · have hne := ne_empty h0
    obtain ⟨m, hm⟩ := hL.out.len
    have hc := Tryz.strings_Split s ⟨#[47]⟩ m w (by omega) hm (by decide)
    have hlen := Lib.splitB_all (⟨#[47]⟩ : ByteArray) (by decide) 0 (Lib.countB s ⟨#[47]⟩) s rfl
    rw [splitB_parts h0] at hc hlen
    rw [← hlen] at hc
    have HC := Lib.hid hc
    clear hc hlen
    go_enter Tryz.func30, Tryz.ntmps30
    go_wp2_with fail
    refine HC.out.mono ?_
    rintro e w1 ⟨rfl, e1⟩
    have hR : Hid (Reads w1 w1.heap.size 1 (some ⟨w.heap.size, 0, none⟩) (partsS s).length ((partsS s).flatMap tc)) := by
      rw [e1, ← map_flat Value.string]
      exact lit1 (f := tc) w 9 (partsS s) (fun _ => rfl)
    have hb : Hid (Below w.heap.size w w1) := by rw [e1]; exact below_lit w _
    clear e1
    generalize hq : (partsS s).length = q at *
    go_wp2
    go_ret
    refine ⟨some ⟨w.heap.size, 0, none⟩, q, ?_, ?_, ?_, hb.out⟩
    · rw [hq]; rfl
    · exact Nat.le_of_eq hq
    · rw [hq]; exact hR.out
end Go.Proofs.YtjbompimlopdiaaGreatDoor.nm
