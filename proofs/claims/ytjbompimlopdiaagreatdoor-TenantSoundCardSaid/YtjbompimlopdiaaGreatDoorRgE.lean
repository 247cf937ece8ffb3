/- Entries of a registry: those under a path, and news, by the package. -/
import Derived.Test.YtjbompimlopdiaaGreatDoorRgD
import Derived.Shelf.Abstract
import Derived.Laws.EntriesVeiled
namespace Go.Proofs.YtjbompimlopdiaaGreatDoor.rgy
open Go.ChangeShapes Go.WideShapes Go.ChangeAt Go.RowKit Go.Proofs.Aid Go.Proofs.YtjbompimlopdiaaGreatDoor.name Go.Proofs.YtjbompimlopdiaaGreatDoor.reg
theorem infoE : (Tryz.prog.info? 38).map (fun i => (i.zero, i.size, i.bytes)) = some (some (.agg #[.string ⟨#[]⟩, .int .i64 0, .string ⟨#[]⟩, .string ⟨#[]⟩]), 4, 56) := by kernel_rfl
def keepE (p : En → Bool) (xs : List En) (k : Nat) : List En := (xs.take k).filter p
theorem keepE_yes {p : En → Bool} {xs : List En} {k : Nat} (h : k < xs.length) (hp : p xs[k] = true) : keepE p xs (k + 1) = keepE p xs k ++ [xs[k]] := by
  unfold keepE; rw [List.take_succ_eq_append_getElem h, List.filter_append]; simp [hp]
theorem keepE_no {p : En → Bool} {xs : List En} {k : Nat} (h : k < xs.length) (hp : p xs[k] = false) : keepE p xs (k + 1) = keepE p xs k := by
  unfold keepE; rw [List.take_succ_eq_append_getElem h, List.filter_append]; simp [hp]
theorem keepE_all (p : En → Bool) (xs : List En) : keepE p xs xs.length = xs.filter p := by unfold keepE; rw [List.take_length]
theorem keepE_len (p : En → Bool) (xs : List En) (k : Nat) : (keepE p xs k).length ≤ k := by
  unfold keepE; exact Nat.le_trans (List.length_filter_le _ _) (List.length_take_le _ _)
def Enters (F : FuncId) : Prop := ∀ (args : Array Value) (w : World), (callFunc F args).run Tryz.prog w = .ok (.enter F args) w
def PredE (B : Nat) (w0 : World) (F : FuncId) (p : Addr) (f : En → Bool) : Prop := ∀ (w : World) (x : En), x.sz → Below B w0 w → Calls Tryz.prog F #[x.val, .pointer (some p)] w fun e w' => e = .returned (.bool (f x)) ∧ Below w.heap.size w w'
/-- A row of entries of the call's own is returned. -/
def RowE (w : World) (xs : List En) (e : Ending) (w' : World) : Prop := ∃ v, e = .returned v ∧ Row w' w.heap.size 38 4 En.cells v xs ∧ Below w.heap.size w w'
theorem one_E (x : En) : ∀ u ∈ x.cells, u.oneCell' = true := by simp [En.cells, Value.oneCell']
set_option maxRecDepth 100000 in
set_option maxHeartbeats 4000000 in
theorem only_any (w : World) (A : Option Addr) (ca : Nat) (xs : List En) (F : FuncId) (hF : Enters F) (p : Addr) (f : En → Bool) (hP : PredE w.heap.size w F p f) (hl : xs.length ≤ 100000) (h1 : Reads w w.heap.size 4 A xs.length (xs.flatMap En.cells)) (hs : ∀ r ∈ xs, r.sz) :
    Calls Tryz.prog 49 #[.slice A xs.length ca, .func (.func F) #[] #[.pointer (some p)]] w (RowE w (xs.filter f)) := by
  obtain ⟨i0, hi0, hz0, hz1, hz2⟩ := info_parts infoE
  have H1 := Lib.hid h1
  have HS := Lib.hid hs
  have HP := Lib.hid hP
  unfold Enters at hF
  have HG := Lib.hid (keepE_all f xs)
  clear h1 hs hP
  have hrow0 : Row w w.heap.size 38 4 En.cells (.slice none 0 0) (keepE f xs 0) := Row.nil _ _ _ _ _
  go_enter Tryz.func49, Tryz.ntmps49
  go_wp2_with fail
  go_loopw [5, 10] (fun v iv wr => ∃ k : Nat, k ≤ xs.length ∧ iv = .int .i64 k ∧ Row wr w.heap.size 38 4 En.cells v (keepE f xs k) ∧ Below w.heap.size w wr) (fun _ iv _ => xs.length - (intOf iv).toNat)
  case atStart => exact ⟨0, by omega, rfl, hrow0, Below.refl _ _⟩
  case round =>
    clear hrow0
    obtain ⟨k, hk, rfl, hrow, hlow⟩ := hrel
    have hsz := hlow.size
    have hlen := keepE_len f xs k
    by_cases hlt : k < xs.length
    · obtain ⟨ad, rfl, had, c0, c1, c2, c3⟩ := elemE (H1.out.below hlow) hlt
      have hz := HS.out _ (List.getElem_mem hlt)
      have hyes := Lib.hid (keepE_yes (p := f) hlt)
      have hno := Lib.hid (keepE_no (p := f) hlt)
      generalize keepE f xs k = L at *
      generalize xs[k] = xe at *
      have HC := Lib.hid (HP.out (wr.alloc (.cells #[.string xe.key, .int .i64 xe.reg.n, .string xe.reg.by_, .string xe.reg.value] 38)) xe hz (hlow.alloc hsz _))
      obtain ⟨kk, n, b, v⟩ := xe
      simp only at c0 c1 c2 c3
      have hb0 := Blk.new wr 38 #[.string kk, .int .i64 n, .string b, .string v]
      have hr0 := hrow.alloc (.cells #[.string kk, .int .i64 n, .string b, .string v] 38)
      have hl0 := hlow.alloc hsz (.cells #[.string kk, .int .i64 n, .string b, .string v] 38)
      have HB0 := Lib.hid hb0
      have HR0 := Lib.hid hr0
      have HL0 := Lib.hid hl0
      clear hb0 hr0 hl0 hrow hlow hz
      cases hf : f ⟨kk, n, b, v⟩ with
      | false =>
        have hro := Lib.hid (hno.out hf)
        rw [hf] at HC
        clear hf hyes hno
        go_wp2_with fail
        refine HC.out.mono ?_
        rintro e w1 ⟨rfl, hb⟩
        have HR1 := Lib.hid (HR0.out.below hb)
        have HL1 := Lib.hid (HL0.out.trans (hb.mono (by simp; omega)))
        clear hb HR0 HL0 HB0 HC
        go_wp2
        go_roundw
        case rel => exact ⟨k + 1, by omega, by go_num, by rw [hro.out]; exact HR1.out, HL1.out⟩
        case measure => simp [intOf]; omega
      | true =>
        have hro := Lib.hid (hyes.out hf)
        rw [hf] at HC
        clear hf hyes hno
        go_wp2_with fail
        refine HC.out.mono ?_
        rintro e w1 ⟨rfl, hb⟩
        have hrow1 := HR0.out.below hb
        have hlow1 := HL0.out.trans (hb.mono (by simp; omega))
        have hb1 := HB0.out.below hb HB0.out.lt
        have d0 : w1.cell? ⟨wr.heap.size, 0, none⟩ = some (.string kk) := by rw [hb1.cell]; rfl
        have d1 : w1.cell? ⟨wr.heap.size, 1, none⟩ = some (.int .i64 n) := by rw [hb1.cell]; rfl
        have d2 : w1.cell? ⟨wr.heap.size, 2, none⟩ = some (.string b) := by rw [hb1.cell]; rfl
        have d3 : w1.cell? ⟨wr.heap.size, 3, none⟩ = some (.string v) := by rw [hb1.cell]; rfl
        have hz1 := hlow1.size
        clear hb HR0 HL0 HB0 HC hb1
        go_wp2_with (at_builtin; refine wpList_append_row _ rfl _ _ 22 rfl w.heap.size 38 i0 _ 4 56 Tryz.underlying22 hi0 hz0 ‹_› hz2 rfl (by decide) _ _ rfl (hrow1.alloc _) En.len _ ⟨kk, n, b, v⟩ rfl (cells_new _ _ _) (one_E _) (by unfold maxLen; omega) (by omega) (by simp; omega) ?_; intro v' w2 hrow' hgrow)
        have hlow' := low_row hlow1 hrow1 (Nat.le_refl _) hz1 hgrow
        go_roundw
        case rel => exact ⟨k + 1, by omega, by go_num, by rw [hro.out]; exact hrow', hlow'⟩
        case measure => simp [intOf]; omega
    · have hkl : k = xs.length := by omega
      subst hkl
      go_wp2
      go_ret
      exact ⟨_, rfl, by rw [← HG.out]; exact hrow, hlow⟩
end Go.Proofs.YtjbompimlopdiaaGreatDoor.rgy
