/- slices.SortFunc by strings.Compare, at a row of texts of the call's own. -/
import Derived.Test.YtjbompimlopdiaaGreatDoorSrt
import Derived.Test.YtjbompimlopdiaaGreatDoorRgM
import Derived.Test.YtjbompimlopdiaaGreatDoorShelf
import Derived.Shelf.SlSortCmp.NoneTotal
import Derived.Shelf.Lay
import Derived.Ground.SlsfProg
namespace Go.Proofs
open Go.Shelf
shelf_lay_g SlLaysF.n6 Slsf 6 at Tryz 31 as Tryz.sortL
end Go.Proofs
namespace Go.Proofs.YtjbompimlopdiaaGreatDoor.srt
open Go.Shelf Go.RowKit Go.Lib Go.Sort
def cfS (x y : List UInt8) : Int := Lib.compareBytes x y
theorem ltS (x y : List UInt8) : ltOf cfS x y = decide (x < y) := by
  unfold ltOf cfS
  rw [← rgy.less_cmp, bytesLess_eq]
theorem swoS : SWO (ltOf cfS) where
  irrefl x := by rw [ltS]; exact decide_eq_false (sets.lt_irr x)
  trans x y z h1 h2 := by rw [ltS] at *; exact decide_eq_true (sets.lt_tr (of_decide_eq_true h1) (of_decide_eq_true h2))
  ntrans x y z h1 h2 := by
    rw [ltS] at *
    have k1 := of_decide_eq_false h1
    have k2 := of_decide_eq_false h2
    apply decide_eq_false
    intro k
    rcases sets.lt_or (a := x) (b := y) with h | h | h
    · exact k1 h
    · subst h; exact k2 k
    · exact k2 (sets.lt_tr h k)
theorem totS (x y : List UInt8) (h1 : ltOf cfS x y = false) (h2 : ltOf cfS y x = false) : x = y := by
  rw [ltS] at h1 h2
  rcases sets.lt_or (a := x) (b := y) with h | h | h
  · exact absurd h (of_decide_eq_false h1)
  · exact h
  · exact absurd h (of_decide_eq_false h2)
theorem geS : (fun x y : List UInt8 => !ltOf cfS y x) = fun x y => decide (x ≤ y) := by
  funext x y
  rw [ltS]
  by_cases h : y < x
  · have h' : ¬ x ≤ y := fun k => absurd h (List.not_lt.2 k)
    simp [h, h']
  · have h' : x ≤ y := List.not_lt.1 h
    simp [h, h']
theorem entersC : ∀ args w, (callFunc 32 args).run Tryz.prog w = .ok (.enter 32 args) w := enters_of Tryz.func32 (by kernel_rfl) rfl
theorem cmpS (blk off size : Nat) (w : World) : CmpReads Tryz.prog 32 #[] encStr cfS blk off size w := fun m os dk _ x y =>
  (Tryz.strings_Compare ⟨x.toArray⟩ ⟨y.toArray⟩ (sortWorld encStr w blk off m dk os)).mono fun e w' ⟨h1, h2⟩ => ⟨by rw [h1]; rfl, 0, by rw [h2]; rfl⟩
theorem sortS (blk off cap : Nat) (ss : List (List UInt8)) (w : World) (hH : Holds encStr w blk off ss.toArray) (hblk : blk < w.heap.size) (hsz : ss.length < 4611686018427387904) :
    Calls Tryz.prog 31 #[.slice (some ⟨blk, off, none⟩) ss.length cap, .func (.func 32) #[] #[]] w fun e w' =>
      e = .returned (.tuple #[]) ∧ ∃ n os, w' = grow (putRow encStr (Sort.ahead w n) blk off (ss.mergeSort fun x y => decide (x ≤ y)).toArray) os := by
  have hS := Any.slices_SortFunc_total Tryz.sortL encStr (fun _ => rfl) cfS swoS 32 #[] blk off cap ss.toArray w entersC (cmpS blk off ss.toArray.size w).lays hH hblk (by simpa using hsz) totS
  rw [geS] at hS
  exact hS
theorem sortNone (p : Option Addr) (cap : Nat) (w : World) : Calls Tryz.prog 31 #[.slice p 0 cap, .func (.func 32) #[] #[]] w fun e w' => e = .returned (.tuple #[]) ∧ w' = w :=
  AnyF.slices_SortFunc_none (P := Tryz.prog) (ρ := Tryz.sortL_ren) { Tryz.sortL with } p cap (.func (.func 32) #[] #[]) w
end Go.Proofs.YtjbompimlopdiaaGreatDoor.srt
