/- Leaf functions of the order of members. -/
import Derived.Test.YteddmjfpbdihiaaSameInts
import Derived.Test.YteddmjfpbdihiaaMapF
import Derived.IntWalk
namespace Go.Proofs.Yteddmjfpbdihiaa.walk
open Go.ChangeShapes Go.WideShapes Go.ChangeAt Go.RowKit Go.Proofs.Aid
open Go.Proofs.Yteddmjfpbdihiaa.ints (i64c)
theorem ret_int {k : IntKind} {a b : Int} (h : a = b) : Ending.returned (.int k a) = .returned (.int k b) := by rw [h]
theorem ret_bool {a b : Bool} (h : a = b) : Ending.returned (.bool a) = .returned (.bool b) := by rw [h]
def frm (part parts : Int) : Int := if parts < 1 then 0 else part % parts
theorem tm1 {a b : Int} (hb : 1 ≤ b) (h : 0 ≤ a.tmod b) : a.tmod b = a % b := by
  by_cases ha : 0 ≤ a
  · exact Int.tmod_eq_emod_of_nonneg ha
  · have h1 := Int.tmod_eq_emod (a := a) (b := b)
    have h2 := Int.emod_nonneg a (b := b) (by omega)
    have h3 := Int.emod_lt_of_pos a (b := b) (by omega)
    split at h1 <;> omega
theorem tm2 {a b : Int} (hb : 1 ≤ b) (h : a.tmod b < 0) : a.tmod b + b = a % b := by
  have h1 := Int.tmod_eq_emod (a := a) (b := b)
  have h2 := Int.emod_nonneg a (b := b) (by omega)
  have h3 := Int.emod_lt_of_pos a (b := b) (by omega)
  split at h1 <;> omega
theorem tm3 {a b : Int} (hb : 1 ≤ b) : -b < a.tmod b ∧ a.tmod b < b := by
  have h1 := Int.tmod_eq_emod (a := a) (b := b)
  have h2 := Int.emod_nonneg a (b := b) (by omega)
  have h3 := Int.emod_lt_of_pos a (b := b) (by omega)
  split at h1 <;> omega
abbrev FromAt (F : Nat) : Prop := ∀ (part parts : Int) (w : World) (_ : parts ≤ 1000000), Calls Try.prog F #[.int .i64 part, .int .i64 parts] w fun e w' => e = .returned (.int .i64 (frm part parts)) ∧ w' = w
set_option maxHeartbeats 1000000 in
theorem from_any : FromAt 11 := by
  intro part parts w h
  by_cases h1 : parts < 1
  · have HF := Lib.hid (show frm part parts = 0 from if_pos h1)
    go_enter Try.func11, Try.ntmps11
    go_wp2
    go_ret
    exact ⟨ret_int (HF.out.symm), rfl⟩
  · have HF := Lib.hid (show frm part parts = part % parts from if_neg h1)
    have h0 : ¬ parts = 0 := by omega
    have hp : 1 ≤ parts := by omega
    have ht := tm3 (a := part) hp
    have hl : -1000000 ≤ part.tmod parts := by omega
    have hl2 : part.tmod parts ≤ 1000000 := by omega
    clear ht
    go_enter Try.func11, Try.ntmps11
    go_wp2
    · go_ret
      exact ⟨ret_int (by rw [HF.out]; exact tm2 hp (by assumption)), rfl⟩
    · go_ret
      exact ⟨ret_int (by rw [HF.out]; exact tm1 hp (by assumption)), rfl⟩
theorem rfrom_any : FromAt 12 := by
  intro part parts w h
  by_cases h1 : parts < 1
  · have HF := Lib.hid (show frm part parts = 0 from if_pos h1)
    go_enter Try.func12, Try.ntmps12
    go_wp2
    go_ret
    exact ⟨ret_int (HF.out.symm), rfl⟩
  · have HF := Lib.hid (show frm part parts = part % parts from if_neg h1)
    have h0 : ¬ parts = 0 := by omega
    have hp : 1 ≤ parts := by omega
    have ht := tm3 (a := part) hp
    have hl : -1000000 ≤ part.tmod parts := by omega
    have hl2 : part.tmod parts ≤ 1000000 := by omega
    clear ht
    go_enter Try.func12, Try.ntmps12
    go_wp2
    · go_ret
      exact ⟨ret_int (by rw [HF.out]; exact tm2 hp (by assumption)), rfl⟩
    · go_ret
      exact ⟨ret_int (by rw [HF.out]; exact tm1 hp (by assumption)), rfl⟩
def fnd (ns : List ByteArray) (s : ByteArray) : Option Nat := ns.findIdx? fun x => decide (x = s)
def fndI (ns : List ByteArray) (s : ByteArray) : Int := match fnd ns s with | some i => i | none => -1
theorem fnd_some {ns : List ByteArray} {s : ByteArray} {i : Nat} : fnd ns s = some i ↔ ∃ h : i < ns.length, ns[i] = s ∧ ∀ j (_ : j < i), ns[j] ≠ s := by
  unfold fnd; rw [List.findIdx?_eq_some_iff_getElem]; simp
theorem fnd_none {ns : List ByteArray} {s : ByteArray} : fnd ns s = none ↔ ∀ x ∈ ns, x ≠ s := by
  unfold fnd; rw [List.findIdx?_eq_none_iff]; simp
set_option maxHeartbeats 1000000 in
theorem in_any (w : World) (A : Option Addr) (cap : Nat) (xs : List Int) (n : Int) (hl : xs.length ≤ 1099511627776) (h1 : Reads w w.heap.size 1 A xs.length (xs.flatMap i64c)) :
    Calls Try.prog 13 #[.slice A xs.length cap, .int .i64 n] w fun e w' => e = .returned (.bool (decide (n ∈ xs))) ∧ w' = w := by
  have H1 := Lib.hid h1
  clear h1
  go_enter Try.func13, Try.ntmps13
  go_wp2_with fail
  go_loopw [5] (fun iv w' => ∃ k : Nat, k ≤ xs.length ∧ iv = .int .i64 k ∧ w' = w ∧ Hid (∀ j (_ : j < xs.length), j < k → xs[j] ≠ n)) (fun iv _ => xs.length - (intOf iv).toNat)
  case atStart => exact ⟨0, by omega, rfl, rfl, fun _ _ h => by omega⟩
  case round =>
    obtain ⟨k, hk, rfl, rfl, hI⟩ := hrel
    by_cases hlt : k < xs.length
    · obtain ⟨a1, q1, -, c1⟩ := H1.out.elem1 hlt
      subst q1
      by_cases hx : xs[k] = n
      · have hin : Hid (n ∈ xs) := by rw [← hx]; exact List.getElem_mem hlt
        have hx' : (xs[k] == n) = true := by simpa using hx
        clear hx
        generalize xs[k] = x at *
        go_wp2
        go_ret
        exact ⟨ret_bool (by simpa using hin.out), rfl⟩
      · have hI2 : Hid (∀ j (_ : j < xs.length), j < k + 1 → xs[j] ≠ n) := fun j h hj => by
          by_cases e : j < k
          · exact hI.out j h e
          · have : j = k := by omega
            subst this; exact hx
        have hx' : (xs[k] == n) = false := by simpa using hx
        clear hx
        generalize xs[k] = x at *
        go_wp2
        go_roundw
        case rel => exact ⟨k + 1, by omega, by go_num, by trivial, hI2⟩
        case measure => simp [intOf]; omega
    · have hin : Hid (n ∉ xs) := fun h => by
        obtain ⟨j, hj, q⟩ := List.getElem_of_mem h
        exact hI.out j hj (by omega) q
      go_wp2
      go_ret
      exact ⟨ret_bool (by simpa using hin.out), rfl⟩
def mem34 (r : R34) : ByteArray := r.name
theorem elem34 {w : World} {B : Nat} {A : Option Addr} {rs : List R34} (h : Reads w B 4 A rs.length (rs.flatMap R34.cells)) {i : Nat} (hi : i < rs.length) :
    ∃ ad, A = some ad ∧ ad.block < B ∧ w.cell? (ad.add (i * 4)) = some (.string rs[i].name) ∧ w.cell? ⟨(ad.add (i * 4)).block, (ad.add (i * 4)).off + 1, none⟩ = some (.string rs[i].rack) ∧ w.cell? ⟨(ad.add (i * 4)).block, (ad.add (i * 4)).off + 2, none⟩ = some (.string rs[i].zone) ∧ w.cell? ⟨(ad.add (i * 4)).block, (ad.add (i * 4)).off + 3, none⟩ = some (.bool rs[i].up) := by
  obtain ⟨ad, e, hb, hc⟩ := h.elem R34.len hi
  have x1 : ∀ j, (⟨(ad.add (i * 4)).block, (ad.add (i * 4)).off + (j + 1), none⟩ : Addr) = ad.add (i * 4 + (j + 1)) := fun j => by rw [← add_of_add]; rfl
  refine ⟨ad, e, hb, by simpa using hc 0 _ rfl, ?_, ?_, ?_⟩
  · rw [x1]; exact hc 1 _ rfl
  · rw [x1]; exact hc 2 _ rfl
  · rw [x1]; exact hc 3 _ rfl
theorem fndI_some {ns : List ByteArray} {s : ByteArray} {i : Nat} (h : fnd ns s = some i) : fndI ns s = i := by unfold fndI; rw [h]
theorem fndI_none {ns : List ByteArray} {s : ByteArray} (h : fnd ns s = none) : fndI ns s = -1 := by unfold fndI; rw [h]
set_option maxHeartbeats 1000000 in
theorem find_any (w : World) (A : Option Addr) (cap : Nat) (rs : List R34) (s : ByteArray) (hl : rs.length ≤ 1099511627776) (h1 : Reads w w.heap.size 4 A rs.length (rs.flatMap R34.cells)) :
    Calls Try.prog 15 #[.slice A rs.length cap, .string s] w fun e w' => e = .returned (.int .i64 (fndI (rs.map R34.name) s)) ∧ w' = w := by
  have H1 := Lib.hid h1
  clear h1
  go_enter Try.func15, Try.ntmps15
  go_wp2_with fail
  go_loopw [5] (fun iv w' => ∃ k : Nat, k ≤ rs.length ∧ iv = .int .i64 k ∧ w' = w ∧ Hid (∀ j (_ : j < rs.length), j < k → rs[j].name ≠ s)) (fun iv _ => rs.length - (intOf iv).toNat)
  case atStart => exact ⟨0, by omega, rfl, rfl, fun _ _ h => by omega⟩
  case round =>
    obtain ⟨k, hk, rfl, rfl, hI⟩ := hrel
    by_cases hlt : k < rs.length
    · obtain ⟨a1, q1, -, c1, -⟩ := elem34 H1.out hlt
      subst q1
      by_cases hx : rs[k].name = s
      · have hin : Hid (fndI (rs.map R34.name) s = k) := fndI_some (fnd_some.2 ⟨by simpa using hlt, by simpa using hx, fun j hj => by simpa using hI.out j (by omega) hj⟩)
        rw [hx] at c1
        clear hx
        go_wp2
        go_ret
        exact ⟨ret_int hin.out.symm, rfl⟩
      · have hI2 : Hid (∀ j (_ : j < rs.length), j < k + 1 → rs[j].name ≠ s) := fun j h hj => by
          by_cases e : j < k
          · exact hI.out j h e
          · have : j = k := by omega
            subst this; exact hx
        generalize rs[k].name = x at *
        have hx' := bytes_ne hx
        clear hx
        go_wp2
        go_roundw
        case rel => exact ⟨k + 1, by omega, by go_num, by trivial, hI2⟩
        case measure => simp [intOf]; omega
    · have hin : Hid (fndI (rs.map R34.name) s = -1) := fndI_none (fnd_none.2 fun x hx => by
        obtain ⟨r, hr, rfl⟩ := List.mem_map.1 hx
        obtain ⟨j, hj, rfl⟩ := List.getElem_of_mem hr
        exact hI.out j hj (by omega))
      go_wp2
      go_ret
      exact ⟨ret_int hin.out.symm, rfl⟩
end Go.Proofs.Yteddmjfpbdihiaa.walk
