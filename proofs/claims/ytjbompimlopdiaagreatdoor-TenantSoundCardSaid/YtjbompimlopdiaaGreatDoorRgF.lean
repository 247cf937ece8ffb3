/- Entries of a registry: those under a path, and news. -/
import Derived.Test.YtjbompimlopdiaaGreatDoorRgE
import Derived.Deep.RegionHeld3
namespace Go.Proofs.YtjbompimlopdiaaGreatDoor.rgy
open Go.ChangeShapes Go.WideShapes Go.ChangeAt Go.RowKit Go.Proofs.Aid Go.Proofs.YtjbompimlopdiaaGreatDoor.name Go.Proofs.YtjbompimlopdiaaGreatDoor.reg
def underP (path : ByteArray) (e : En) : Bool := Lib.hasPrefix e.key.data.toList (path.data.toList ++ [47])
def newsP (b : List En) (e : En) : Bool := e.reg.newer (get b e.key)
set_option maxHeartbeats 1000000 in
theorem under1_any (x : En) (w : World) (p : Addr) (s : ByteArray) (hs : s.size ≤ 1000000) (hp : p.block < w.heap.size) (hc : w.cell? p = some (.string s)) :
    Calls Tryz.prog 50 #[x.val, .pointer (some p)] w fun e w' => e = .returned (.bool (underP s x)) ∧ Below w.heap.size w w' := by
  obtain ⟨kk, n, b, v⟩ := x
  have hne : ¬ (p.block = w.heap.size) := by omega
  have hl0 := Lib.hid (below_lit w (.cells #[.string kk, .int .i64 n, .string b, .string v] 38))
  have hU := Lib.hid (show underP s ⟨kk, n, b, v⟩ = Lib.hasPrefix kk.data.toList (s.data.toList ++ [47]) from rfl)
  show Calls Tryz.prog 50 #[.agg #[.string kk, .int .i64 n, .string b, .string v], .pointer (some p)] w _
  go_enter Tryz.func50, Tryz.ntmps50
  go_wp2_with fail
  refine (Tryz.strings_HasPrefix _ _ _).mono ?_
  rw [show (s ++ ⟨#[47]⟩ : ByteArray).data.toList = s.data.toList ++ [47] by simp]
  rintro e w1 ⟨rfl, rfl⟩
  go_wp2
  go_ret
  exact ⟨reg.ret_bool hU.out.symm, hl0.out⟩
theorem under1_pred {w : World} {p : Addr} {s : ByteArray} (hs : s.size ≤ 1000000) (hp : p.block < w.heap.size) (hc : w.cell? p = some (.string s)) : PredE w.heap.size w 50 p (underP s) := fun w' x _ hb =>
  under1_any x w' p s hs (Nat.lt_of_lt_of_le hp hb.size) ((hb.cell hp).trans hc)
theorem entersU : Enters 50 := enters_of Tryz.func50 (by kernel_rfl) rfl
set_option maxHeartbeats 1000000 in
theorem under_any (w : World) (A : Option Addr) (ca : Nat) (xs : List En) (s : ByteArray) (hl : xs.length ≤ 100000) (h1 : Reads w w.heap.size 4 A xs.length (xs.flatMap En.cells)) (hz : ∀ r ∈ xs, r.sz) (hs : s.size ≤ 1000000) :
    Calls Tryz.prog 29 #[.slice A xs.length ca, .string s] w (RowE w (xs.filter (underP s))) := by
  have hb := Blk.new w 9 #[.string s]
  have hl0 := Lib.hid (below_lit w (.cells #[.string s] 9))
  have H1 := Lib.hid (h1.more_below hl0.out)
  have HS := Lib.hid hz
  have HP := Lib.hid (under1_pred (w := w.alloc (.cells #[.string s] 9)) (p := ⟨w.heap.size, 0, none⟩) hs (by simp) (by rw [hb.cell]; rfl))
  clear h1 hz hb
  go_enter Tryz.func29, Tryz.ntmps29
  go_wp2_with fail
  refine (only_any _ A ca xs _ entersU ⟨w.heap.size, 0, none⟩ _ HP.out hl H1.out HS.out).mono ?_
  rintro e w2 ⟨v2, rfl, hrow2, hlow2⟩
  have hr := Lib.hid (hrow2.more (base' := w.heap.size) (by simp))
  have hl3 := Lib.hid (hl0.out.trans (hlow2.mono (by simp)))
  clear hrow2 hlow2
  go_wp2
  go_ret
  exact ⟨_, rfl, hr.out, hl3.out⟩
end Go.Proofs.YtjbompimlopdiaaGreatDoor.rgy
