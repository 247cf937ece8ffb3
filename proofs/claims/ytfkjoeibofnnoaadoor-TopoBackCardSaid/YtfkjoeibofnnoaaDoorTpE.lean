/- Members that are up, by the package: closures, and slices.Clone and slices.DeleteFunc at members. -/
import Derived.Test.YtfkjoeibofnnoaaDoorTpD
import Derived.Test.YtfkjoeibofnnoaaDoorRowN
namespace Go.Proofs.YtfkjoeibofnnoaaDoor.tp
set_option linter.unusedSimpArgs false
open Go.ChangeShapes Go.WideShapes Go.ChangeAt Go.RowKit Go.Proofs.Aid
open Go.Proofs.YtfkjoeibofnnoaaDoor.nm (Lets)
abbrev mz : Value := .agg #[.string ⟨#[]⟩, .string ⟨#[]⟩, .string ⟨#[]⟩, .bool false]
theorem zeroM (w : World) : (zeroValue 26).run Tryd.prog w = .ok mz w := by kernel_rfl
def Enters (F : FuncId) : Prop := ∀ (args : Array Value) (w : World), (callFunc F args).run Tryd.prog w = .ok (.enter F args) w
theorem isUp_any (m : Mb) (w : World) : Calls Tryd.prog 34 #[m.val] w fun e w' => e = .returned (.bool m.u) ∧ Below w.heap.size w w' := by
  obtain ⟨n, r, z, u⟩ := m
  have HL := Lib.hid (below_lit w (.cells #[.string n, .string r, .string z, .bool u] 55))
  go_enter Tryd.func34, Tryd.ntmps34
  go_wp2
  go_ret
  exact ⟨rfl, HL.out⟩
theorem rack_any (m : Mb) (w : World) : Calls Tryd.prog 36 #[m.val] w fun e w' => e = .returned (.string m.r) ∧ Below w.heap.size w w' := by
  obtain ⟨n, r, z, u⟩ := m
  have HL := Lib.hid (below_lit w (.cells #[.string n, .string r, .string z, .bool u] 55))
  go_enter Tryd.func36, Tryd.ntmps36
  go_wp2
  go_ret
  exact ⟨rfl, HL.out⟩
theorem zone_any (m : Mb) (w : World) : Calls Tryd.prog 38 #[m.val] w fun e w' => e = .returned (.string m.z) ∧ Below w.heap.size w w' := by
  obtain ⟨n, r, z, u⟩ := m
  have HL := Lib.hid (below_lit w (.cells #[.string n, .string r, .string z, .bool u] 55))
  go_enter Tryd.func38, Tryd.ntmps38
  go_wp2
  go_ret
  exact ⟨rfl, HL.out⟩
/-- A function value that tells f of a member, in whatever world in which nothing below B has turned. -/
def Pred (B : Nat) (w0 : World) (F : FuncId) (p : Addr) (f : Mb → Bool) : Prop := ∀ (w : World) (m : Mb), Below B w0 w → Calls Tryd.prog F #[m.val, .pointer (some p)] w fun e w' => e = .returned (.bool (f m)) ∧ Below w.heap.size w w'
theorem entersI : Enters 34 := enters_of Tryd.func34 (by kernel_rfl) rfl
theorem entersN : Enters 47 := enters_of Tryd.func47 (by kernel_rfl) rfl
set_option maxHeartbeats 1000000 in
theorem not1_any (w : World) (p : Addr) (hp : p.block < w.heap.size) (hc : w.cell? p = some (.func (.func 34) #[] #[])) (m : Mb) :
    Calls Tryd.prog 47 #[m.val, .pointer (some p)] w fun e w' => e = .returned (.bool (!m.u)) ∧ Below w.heap.size w w' := by
  obtain ⟨n, r, z, u⟩ := m
  have HL := Lib.hid (below_lit w (.cells #[.string n, .string r, .string z, .bool u] 26))
  have HC := Lib.hid (isUp_any ⟨n, r, z, u⟩ (w.alloc (.cells #[.string n, .string r, .string z, .bool u] 26)))
  have hF := entersI
  unfold Enters at hF
  have hne : ¬ (p.block = w.heap.size) := by omega
  go_enter Tryd.func47, Tryd.ntmps47
  go_wp2_with fail
  refine HC.out.mono ?_
  rintro e w1 ⟨rfl, hb⟩
  have HL2 := Lib.hid (HL.out.trans (hb.mono (by simp)))
  clear hb
  go_wp2
  go_ret
  exact ⟨rfl, HL2.out⟩
theorem not1_pred {B : Nat} {w : World} {p : Addr} (hp : p.block < B) (hB : B ≤ w.heap.size) (hc : w.cell? p = some (.func (.func 34) #[] #[])) : Pred B w 47 p (fun m => !m.u) := fun w' m hb =>
  not1_any w' p (Nat.lt_of_lt_of_le hp (Nat.le_trans hB hb.size)) ((hb.cell hp).trans hc) m
def idx (f : Mb → Bool) (xs : List Mb) : Int := match xs.findIdx? f with | some i => i | none => -1
theorem idx_some {f : Mb → Bool} {xs : List Mb} {k : Nat} (h : k < xs.length) (hk : f xs[k] = true) (hj : ∀ j (_ : j < xs.length), j < k → f xs[j] = false) : idx f xs = k := by
  unfold idx
  rw [show xs.findIdx? f = some k from List.findIdx?_eq_some_iff_getElem.2 ⟨h, hk, fun j hjk => by simp [hj j (by omega) hjk]⟩]
theorem idx_none {f : Mb → Bool} {xs : List Mb} (hj : ∀ j (_ : j < xs.length), f xs[j] = false) : idx f xs = -1 := by
  unfold idx
  rw [show xs.findIdx? f = none from List.findIdx?_eq_none_iff.2 fun x hx => by obtain ⟨j, hj', rfl⟩ := List.getElem_of_mem hx; simp [hj j hj']]
theorem ret_int {k : IntKind} {a b : Int} (h : a = b) : Ending.returned (.int k a) = .returned (.int k b) := by rw [h]
set_option maxRecDepth 100000 in
set_option maxHeartbeats 2000000 in
theorem index_any (B : Nat) (w0 w : World) (A : Option Addr) (ca : Nat) (xs : List Mb) (F : FuncId) (hF : Enters F) (p : Addr) (f : Mb → Bool) (hP : Pred B w0 F p f) (hlow : Below B w0 w) (hBz : B ≤ w.heap.size) (hl : xs.length ≤ 100000) (h1 : Reads w w.heap.size 4 A xs.length (xs.flatMap Mb.cells)) :
    Calls Tryd.prog 55 #[.slice A xs.length ca, .func (.func F) #[] #[.pointer (some p)]] w fun e w' => e = .returned (.int .i64 (idx f xs)) ∧ Below w.heap.size w w' := by
  have H1 := Lib.hid h1
  have HP := Lib.hid hP
  have HL := Lib.hid hlow
  unfold Enters at hF
  clear h1 hP hlow
  go_enter Tryd.func55, Tryd.ntmps55
  go_wp2_with fail
  go_loopw [5, 8] (fun _ iv wr => ∃ k : Nat, k ≤ xs.length ∧ iv = .int .i64 k ∧ Hid (∀ j (_ : j < xs.length), j < k → f xs[j] = false) ∧ Below w.heap.size w wr) (fun _ iv _ => xs.length - (intOf iv).toNat)
  case atStart => exact ⟨0, by omega, rfl, fun _ _ h => by omega, Below.refl _ _⟩
  case round =>
    obtain ⟨k, hk, rfl, hI, hb⟩ := hrel
    by_cases hlt : k < xs.length
    · obtain ⟨a1, q1, -, c0, c1, c2, c3⟩ := elemM (H1.out.below hb) hlt
      subst q1
      have hcall := Lib.hid (HP.out wr xs[k] (HL.out.trans (hb.mono hBz)))
      cases hf : f xs[k] with
      | true =>
        have hfin := Lib.hid (idx_some hlt hf (fun j h hj => hI.out j h hj))
        rw [hf] at hcall
        clear hf
        generalize xs[k] = s at *
        obtain ⟨n, r, z, u⟩ := s
        simp only at c0 c1 c2 c3
        go_wp2_with fail
        refine hcall.out.mono ?_
        rintro e w2 ⟨rfl, hb2⟩
        have hb3 := hb.trans (hb2.mono hb.size)
        go_wp2
        go_ret
        exact ⟨ret_int hfin.out.symm, hb3⟩
      | false =>
        have hI2 : Hid (∀ j (_ : j < xs.length), j < k + 1 → f xs[j] = false) := fun j h hj => by
          by_cases e : j < k
          · exact hI.out j h e
          · have : j = k := by omega
            subst this; exact hf
        rw [hf] at hcall
        clear hf
        generalize xs[k] = s at *
        obtain ⟨n, r, z, u⟩ := s
        simp only at c0 c1 c2 c3
        go_wp2_with fail
        refine hcall.out.mono ?_
        rintro e w2 ⟨rfl, hb2⟩
        have hb3 := hb.trans (hb2.mono hb.size)
        go_wp2
        go_roundw
        case rel => exact ⟨k + 1, by omega, by go_num, hI2, hb3⟩
        case measure => simp [intOf]; omega
    · have hfin := Lib.hid (idx_none (f := f) (xs := xs) (fun j h => hI.out j h (by omega)))
      go_wp2
      go_ret
      exact ⟨ret_int hfin.out.symm, hb⟩
end Go.Proofs.YtfkjoeibofnnoaaDoor.tp
