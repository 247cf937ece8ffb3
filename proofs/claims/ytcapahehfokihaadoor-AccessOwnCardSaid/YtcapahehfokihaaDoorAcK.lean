/- The key of the register of what a user may do. -/
import Derived.Test.YtcapahehfokihaaDoorAcT
import Derived.Test.YtcapahehfokihaaDoorShelf
namespace Go.Proofs.YtcapahehfokihaaDoor.acc
open Go.ChangeShapes Go.WideShapes Go.ChangeAt Go.RowKit Go.Proofs.Aid
def key (t b u : ByteArray) : ByteArray := ⟨(Lib.join ([(⟨#[97, 99, 108]⟩ : ByteArray), t, b, u].map (·.data.toList)) [47]).toArray⟩
theorem key_cat (t b u : ByteArray) : ((((((⟨#[97, 99, 108, 47]⟩ : ByteArray) ++ t) ++ ⟨#[47]⟩) ++ b) ++ ⟨#[47]⟩) ++ u) = key t b u := by
  apply ByteArray.ext
  apply Array.toList_inj.1
  simp [key, Lib.join]
theorem key_list (t b u : ByteArray) : (Lib.join ([(⟨#[97, 99, 108]⟩ : ByteArray), t, b, u].map (·.data.toList)) [47]) = [97, 99, 108, 47] ++ t.data.toList ++ [47] ++ b.data.toList ++ [47] ++ u.data.toList := by
  simp [Lib.join]
theorem key_size (t b u : ByteArray) : (key t b u).size = 6 + t.size + b.size + u.size := by
  show (Lib.join _ _).toArray.size = _
  rw [List.size_toArray, key_list]
  simp
  omega
set_option maxHeartbeats 1000000 in
theorem key_any (t b u : ByteArray) (w : World) (ht : t.size ≤ 1000000) (hb : b.size ≤ 1000000) (hu : u.size ≤ 1000000) :
    Calls Tryd.prog 11 #[.string t, .string b, .string u] w fun e w' => e = .returned (.string (key t b u)) ∧ Below w.heap.size w w' := by
  have hl0 := Lib.hid (below_lit w (.cells #[.string ⟨#[97, 99, 108]⟩, .string t, .string b, .string u] 9))
  have HB := Lib.hid (Blk.new w 9 #[.string ⟨#[97, 99, 108]⟩, .string t, .string b, .string u])
  have hsz := key_size t b u
  have hj := Tryd.strings_Join w.heap.size 0 4 [(⟨#[97, 99, 108]⟩ : ByteArray), t, b, u] ⟨#[47]⟩ (w.alloc (.cells #[.string ⟨#[97, 99, 108]⟩, .string t, .string b, .string u] 9)) (fun j x hx => by
      have h := HB.out.cell (0 + j)
      rw [h, Nat.zero_add]
      match j, hx with
      | 0, hx => simp at hx; subst hx; rfl
      | 1, hx => simp at hx; subst hx; rfl
      | 2, hx => simp at hx; subst hx; rfl
      | 3, hx => simp at hx; subst hx; rfl
      | j + 4, hx => simp at hx) (by simp) (by simp) (by simp) (by
      rw [key_list]; simp; omega)
  have HJ := Lib.hid hj
  clear hj hsz
  go_enter Tryd.func11, Tryd.ntmps11
  go_wp2_with fail
  refine Calls.mono (?_ : Calls Tryd.prog 24 #[.slice (some ⟨w.heap.size, 0, none⟩) 4 4] _ fun e w' => e = .returned (.string (key t b u)) ∧ Below w.heap.size w w') ?_
  · go_enter Tryd.func24, Tryd.ntmps24
    go_wp2_with fail
    refine HJ.out.mono ?_
    rintro e w1 ⟨rfl, hb1⟩
    have HL := Lib.hid (hl0.out.trans (hb1.mono (by simp)))
    clear hb1
    go_wp2
    go_ret
    exact ⟨rfl, HL.out⟩
  · rintro e w1 ⟨rfl, hb1⟩
    go_wp2
    go_ret
    exact ⟨rfl, hb1⟩
theorem rkey_any (t b u : ByteArray) (w : World) (ht : t.size ≤ 1000000) (hb : b.size ≤ 1000000) (hu : u.size ≤ 1000000) :
    Calls Tryd.prog 12 #[.string t, .string b, .string u] w fun e w' => e = .returned (.string (key t b u)) ∧ w' = w := by
  have hk := Lib.hid (key_cat t b u)
  go_enter Tryd.func12, Tryd.ntmps12
  go_wp2
  go_ret
  exact ⟨ret_str hk.out, rfl⟩
end Go.Proofs.YtcapahehfokihaaDoor.acc
