/- The walk of CrcFinds. -/
import Derived.Test.YtajbennbgjbpeaaA
import Derived.Test.YtajbennbgjbpeaaAid
import Derived.Test.YtajbennbgjbpeaaMath2
import Derived.Laws.BitsLemmas
import Derived.Laws.IdiomStrings
import Derived.WalkSpells
namespace Go.Proofs.Ytajbennbgjbpeaa.crc
open Go.ChangeShapes Go.WideShapes Go.ChangeAt Go.RowKit
open Go.Proofs.CrcMath
def RowAt (w : World) (B : Nat) (l : List UInt8) : Prop := (∀ j (h : j < l.length), w.cell? ⟨B, j, none⟩ = some (.int .u8 (l[j].toNat : Int))) ∧ ∀ j, j < l.length → w.frozen? ⟨B, j, none⟩ = false
theorem rowAt_new (w : World) (s : ByteArray) (cap : Nat) : RowAt (w.alloc (.cells (bytesRow s cap) 5 ((bytesRow s cap).size, (bytesRow s cap).size + 1))).drew w.heap.size s.data.toList := by
  constructor
  · intro j hj
    have hj' : j < s.data.size := by simpa using hj
    have := World.cell?_alloc_mark w (bytesRow s cap) 5 ((bytesRow s cap).size, (bytesRow s cap).size + 1) j
    rw [bytesRow_at s cap j hj'] at this
    simpa using this
  · intro j hj
    have := World.frozen?_alloc_mark w (bytesRow s cap) 5 (bytesRow s cap).size ((bytesRow s cap).size + 1) j
    have hs : (bytesRow s cap).size = s.data.size + (cap - s.size) := by simp [bytesRow]
    have hd : decide ((bytesRow s cap).size ≤ j) = false := by
      have hj' : j < s.data.size := by simpa using hj
      have hz : s.data.size = s.size := rfl
      rw [hs]; simp; omega
    rw [hd] at this
    simpa using this
theorem rowAt_set {w : World} {B : Nat} {l : List UInt8} (h : RowAt w B l) (i : Nat) (hi : i < l.length) (c : UInt8) :
    RowAt (w.setCell ⟨B, i, none⟩ (.int .u8 (c.toNat : Int))).drew B (l.set i c) := by
  constructor
  · intro j hj
    have hj' : j < l.length := by simpa using hj
    show (w.setCell _ _).cell? _ = _
    by_cases e : i = j
    · subst e
      rw [World.cell?_setCell_same _ _ _ (h.1 i hi)]; simp
    · rw [World.cell?_setCell_other _ _ _ _ (by intro hh; injection hh; omega), h.1 j hj', List.getElem_set_ne e]
  · intro j hj
    have hj' : j < l.length := by simpa using hj
    show (w.setCell _ _).frozen? _ = _
    rw [World.frozen?_setCell]; exact h.2 j hj'
theorem xor_cell (x : UInt8) (u : Int) (i : Nat) (n : Int) (h0 : 0 ≤ u) (hn : n = (u / (2 ^ (8 * i) : Nat) % 256)) : bits BinOp.xor IntKind.u8 (x.toNat : Int) n = ((x ^^^ dbyte u i).toNat : Int) := by
  subst hn
  have e : u / ((2 ^ (8 * i) : Nat) : Int) % 256 = ((dbyte u i).toNat : Int) := by
    rw [dbyte_toNat]
    obtain ⟨m, rfl⟩ := Int.eq_ofNat_of_zero_le h0
    simp
  rw [e, u8_xor_nat _ _ x.toNat_lt (dbyte u i).toNat_lt, UInt8.toNat_xor]
theorem next {w : World} {B : Nat} {l : List UInt8} {k : Nat} {u : Int} {i : Nat} (h : RowAt w B (lst l k u i)) (hi : k + i < (lst l k u i).length) {x : UInt8} (hx : (lst l k u i)[k + i] = x) (h0 : 0 ≤ u) {n : Int} (hn : n = (u / (2 ^ (8 * i) : Nat) % 256)) :
    RowAt (w.setCell ⟨B, k + i, none⟩ (.int .u8 (bits BinOp.xor IntKind.u8 (x.toNat : Int) n))).drew B (lst l k u (i + 1)) := by
  rw [xor_cell x u i n h0 hn]
  have := rowAt_set h (k + i) hi (x ^^^ dbyte u i)
  have e : lst l k u (i + 1) = (lst l k u i).set (k + i) (x ^^^ dbyte u i) := by
    show (lst l k u i).set (k + i) ((lst l k u i).getD (k + i) 0 ^^^ dbyte u i) = _
    simp [List.getD, List.getElem?_eq_getElem hi, hx]
  rw [e]; exact this
theorem finds_walk (s : ByteArray) (t u : Int) (ht0 : 0 ≤ t) (ht1 : t ≤ 65535) (hu0 : 0 ≤ u) (hu1 : u ≤ 4294967295) (h : s.size ≤ maxLen) (w : World) (h0 : ¬ 1024 < s.size) (h1 : ¬ s.size < 4) (h2 : (u == 0) = false) :
    Calls Try.prog 5 #[.string s, .int .u16 t, .int .u32 u] w fun e w' => e = .returned (.bool true) ∧ Below w.heap.size w w' := by
  have m0 := Lib.hid h
  unfold maxLen at h
  have hcv := fun w => run_bytes_of_string (P := Try.prog) w 9 29 5 s Try.underlying9 Try.underlying29 Try.underlying5
  have hm0 : 0 ≤ t % (s.size - 3 : Int) := Int.emod_nonneg _ (by omega)
  have hm1 : t % (s.size - 3 : Int) < s.size - 3 := Int.emod_lt_of_pos _ (by omega)
  go_enter Try.func5, Try.ntmps5
  go_wp2_with fail
  clear hcv
  obtain ⟨k, hk⟩ : ∃ k : Nat, (k : Int) = t % (s.size - 3 : Int) := ⟨(t % (s.size - 3 : Int)).toNat, by omega⟩
  rw [← hk] at hm0 hm1 ⊢
  clear hk
  generalize hcap : grownCap w s.size 0 5 = cap
  have hrow : RowAt (w.alloc (.cells (bytesRow s cap) 5 ((bytesRow s cap).size, (bytesRow s cap).size + 1))).drew w.heap.size s.data.toList := rowAt_new w s cap
  have hbel : Below w.heap.size w (w.alloc (.cells (bytesRow s cap) 5 ((bytesRow s cap).size, (bytesRow s cap).size + 1))).drew := ((Below.refl _ _).alloc (Nat.le_refl _) _).drew
  clear hcap
  generalize (w.alloc (.cells (bytesRow s cap) 5 ((bytesRow s cap).size, (bytesRow s cap).size + 1))).drew = W1 at *
  generalize hB : w.heap.size = B at *
  have HB := Lib.hid hB
  clear hB
  go_loopw [9] (fun iv wr => ∃ i : Nat, i ≤ 4 ∧ iv = .int .i64 i ∧ RowAt wr B (lst s.data.toList k u i) ∧ Below B w wr) (fun iv _ => 4 - (intOf iv).toNat)
  case atStart => exact ⟨0, by omega, rfl, hrow, hbel⟩
  case round =>
    obtain ⟨i, hi, rfl, hrow, hbel⟩ := hrel
    by_cases hlt : i < 4
    · have hlen := lst_length s.data.toList k u i
      have hki : k + i < (lst s.data.toList k u i).length := by rw [hlen]; simp; omega
      have hc := hrow.1 (k + i) hki
      have hf := hrow.2 (k + i) hki
      have HR := Lib.hid hrow
      have HL := Lib.hid hki
      generalize hx : (lst s.data.toList k u i)[k + i] = x at hc
      have HX := Lib.hid hx
      clear hx hrow hlen
      have hi4 : i = 0 ∨ i = 1 ∨ i = 2 ∨ i = 3 := by omega
      rcases hi4 with rfl | rfl | rfl | rfl
      · simp only [Nat.add_zero] at hc hf
        go_wp2
        go_region
        go_wp2
        go_roundw
        case rel => exact ⟨1, by omega, rfl, next (i := 0) HR.out HL.out HX.out hu0 (by simp), (hbel.setCell (Nat.le_refl _) _).drew⟩
        case measure => simp [intOf]
      · go_wp2
        go_region
        go_wp2
        go_roundw
        case rel => exact ⟨2, by omega, rfl, next (i := 1) HR.out HL.out HX.out hu0 (by simp), (hbel.setCell (Nat.le_refl _) _).drew⟩
        case measure => simp [intOf]
      · go_wp2
        go_region
        go_wp2
        go_roundw
        case rel => exact ⟨3, by omega, rfl, next (i := 2) HR.out HL.out HX.out hu0 (by simp), (hbel.setCell (Nat.le_refl _) _).drew⟩
        case measure => simp [intOf]
      · go_wp2
        go_region
        go_wp2
        go_roundw
        case rel => exact ⟨4, by omega, rfl, next (i := 3) HR.out HL.out HX.out hu0 (by simp; omega), (hbel.setCell (Nat.le_refl _) _).drew⟩
        case measure => simp [intOf]
    · obtain rfl : i = 4 := by omega
      have hlen := lst_length s.data.toList k u 4
      have hback := run_convert_bytes_back (P := Try.prog) wr 29 9 5 ⟨B, 0, none⟩ cap (lst s.data.toList k u 4) Try.underlying29 Try.underlying5 Try.underlying9 (fun j hj => by
        have := hrow.1 j hj
        unfold Addr.add; split <;> simp_all)
      rw [hlen] at hback
      have hback := fun (n : Nat) (hn : n = s.data.toList.length) => hn ▸ hback
      have hback := hback s.size (by simp)
      have hne := Lib.hid (finds s.data.toList k (by simp; omega) u hu0 hu1 (by simpa using h2))
      clear hrow hlen
      go_wp2_with fail
      refine (sum_any _ _ ?_).mono ?_
      · show (lst s.data.toList k u 4).toArray.size ≤ maxLen
        have := lst_length s.data.toList k u 4
        unfold maxLen; simp at this ⊢; omega
      rintro e w' ⟨rfl, rfl⟩
      go_wp2_with fail
      refine (sum_any _ _ m0.out).mono ?_
      rintro e w' ⟨rfl, rfl⟩
      go_wp2_with fail
      · rename_i hq
        exact absurd (Int.ofNat.inj hq) hne.out
      refine (awake_any _).mono ?_
      rintro e w' ⟨rfl, rfl⟩
      go_wp2
      go_ret
      refine ⟨congrArg (fun b => Ending.returned (Value.bool b)) ?_, by rw [HB.out]; exact hbel⟩
      have := hne.out
      simp [bne]; omega
theorem finds_all (s : ByteArray) (t u : Int) (h : s.size ≤ maxLen) (ht : (Lit.int .u16 t).wf = true) (hu : (Lit.int .u32 u).wf = true) (w : World) :
    Calls Try.prog 5 #[.string s, .int .u16 t, .int .u32 u] w fun e w' => e = .returned (.bool true) ∧ Below w.heap.size w w' := by
  have ht' : 0 ≤ t ∧ t ≤ 65535 := by simpa [Lit.wf, IntKind.min, IntKind.max, IntKind.signed, IntKind.bits] using ht
  have hu' : 0 ≤ u ∧ u ≤ 4294967295 := by simpa [Lit.wf, IntKind.min, IntKind.max, IntKind.signed, IntKind.bits] using hu
  by_cases h0 : 1024 < s.size
  · unfold maxLen at h
    go_enter Try.func5, Try.ntmps5
    go_wp2_with fail
    refine (awake_any _).mono ?_
    rintro e w' ⟨rfl, rfl⟩
    go_wp2
    go_ret
    exact ⟨rfl, Below.refl _ _⟩
  · by_cases h1 : s.size < 4
    · unfold maxLen at h
      go_enter Try.func5, Try.ntmps5
      go_wp2_with fail
      refine (awake_any _).mono ?_
      rintro e w' ⟨rfl, rfl⟩
      go_wp2
      go_ret
      exact ⟨rfl, Below.refl _ _⟩
    · by_cases h2 : u = 0
      · subst h2
        unfold maxLen at h
        go_enter Try.func5, Try.ntmps5
        go_wp2_with fail
        refine (awake_any _).mono ?_
        rintro e w' ⟨rfl, rfl⟩
        go_wp2
        go_ret
        exact ⟨rfl, Below.refl _ _⟩
      · exact finds_walk s t u ht'.1 ht'.2 hu'.1 hu'.2 h w h0 h1 (by simpa using h2)
end Go.Proofs.Ytajbennbgjbpeaa.crc
