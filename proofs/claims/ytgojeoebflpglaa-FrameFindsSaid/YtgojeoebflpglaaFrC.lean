/- Scanning frames, the package's. No condition. -/
import Derived.Test.YtgojeoebflpglaaFrB
namespace Go.Proofs.Ytgojeoebflpglaa.fr
set_option linter.unusedSimpArgs false
set_option linter.unusedVariables false
open Go.ChangeShapes Go.WideShapes Go.ChangeAt Go.RowKit Go.Proofs.Aid
open Go.Proofs.Ytgojeoebflpglaa.oc Go.Proofs.CrcMath
open Go.Proofs.Ytgojeoebflpglaa.texts (tc)
/-- What Scan answers. -/
def SPost (x : ByteArray) (w : World) (e : Ending) (w' : World) : Prop := ∃ v, e = .returned (.tuple #[v, .int .i64 (scanS x).2]) ∧ Row w' w.heap.size 9 1 tc v (scanS x).1 ∧ Below w.heap.size w w'
set_option maxRecDepth 100000 in
set_option maxHeartbeats 4000000 in
theorem scan_any (x : ByteArray) (w : World) (hx : x.size ≤ 1000000) :
    Calls Try.prog 8 #[.string x] w (SPost x w) := by
  obtain ⟨i0, hi0, hz0, hz1, hz2⟩ := info_parts infoT
  have hrow0 : Row w w.heap.size 9 1 tc (.slice none 0 0) [] := Row.nil _ _ _ _ _
  have hgot0 := Lib.hid (Got.zero x)
  go_enter Try.func8, Try.ntmps8
  go_wp2_with fail
  go_loopw [4, 5] (fun v gv wr => ∃ (k g : Nat) (L : List ByteArray), gv = .int .i64 g ∧ Hid (Got x k L g) ∧ Row wr w.heap.size 9 1 tc v L ∧ Hid (Below w.heap.size w wr)) (fun _ gv _ => x.size - (intOf gv).toNat)
  case atStart => exact ⟨0, 0, [], rfl, hgot0, hrow0, Below.refl _ _⟩
  case round =>
    clear hgot0 hrow0
    obtain ⟨k, g, L, rfl, hgot, hrow, hlow⟩ := hrel
    have hgx := hgot.out.2.2.2
    have hL : L.length ≤ 1000000 := by have := hgot.out.2.1; have := hgot.out.2.2.1; omega
    have hzw := hlow.out.size
    obtain ⟨A, c, rfl⟩ := hrow.form
    have hF := Lib.hid (first_any (x.extract g x.size) wr (by rw [ByteArray.size_extract]; omega))
    have hstop := Lib.hid (fun h => hgot.out.stop h)
    have hnext := Lib.hid (fun b h => hgot.out.next (b := b) h)
    have hfit := Lib.hid (fun b (h : firstS (x.extract g x.size) = some b) => first_fit h)
    have hez : (x.extract g x.size).size = x.size - g := by rw [ByteArray.size_extract]; omega
    have HEZ := Lib.hid hez
    clear hez
    generalize hy : x.extract g x.size = y at *
    go_wp2_with fail
    clear hy
    refine hF.out.mono ?_
    rintro e w1 ⟨⟨t, b, rfl, hb1, hb0⟩, hlow1⟩
    have hrow1 := hrow.below hlow1
    have hl1 := Lib.hid (hlow.out.trans (hlow1.mono hzw))
    have hzz := hl1.out.size
    clear hlow1 hrow hlow hF
    cases b with
    | false =>
      have hq := hstop.out (hb0 rfl)
      have HP : Hid (SPost x w (.returned (.tuple #[.slice A L.length c, .int .i64 g])) w1) := by
        unfold Hid SPost
        rw [hq]
        exact ⟨_, rfl, hrow1, hl1.out⟩
      clear hb0 hb1 hstop hnext hfit hq hrow1
      go_wp2
      go_ret2
      exact HP.out
    | true =>
      have hq := hb1 rfl
      have hG := Lib.hid (hnext.out t hq)
      have hft := hfit.out t hq
      rw [HEZ.out] at hft
      clear hb0 hb1 hstop hnext hfit hq HEZ
      go_wp2_with (at_builtin; refine wpList_append_row _ rfl _ _ 22 rfl w.heap.size 9 i0 _ 1 16 Try.underlying22 hi0 hz0 hz1 hz2 rfl (by decide) _ _ rfl (hrow1.alloc _) (fun _ => rfl) _ t rfl (cells_new _ _ _) (one_t _) (by unfold maxLen; omega) (by omega) (by simp; omega) ?_; intro v' w3 hrow3 hgrow3)
      have hl3 := Lib.hid (low_row hl1.out hrow1 (Nat.le_refl _) hzz hgrow3)
      clear hgrow3 hrow1
      go_wp2
      go_roundw
      case rel => exact ⟨k + 1, g + (8 + t.size), L ++ [t], by go_num, hG, hrow3, hl3⟩
      case measure => simp [intOf]; omega
end Go.Proofs.Ytgojeoebflpglaa.fr
