/- The walk of split. -/
import Derived.Test.YtcbfcmnnahbblaaM
import Derived.Deep.RegionLaw
import Derived.Deep.AppendLies
namespace Go.Proofs.Ytcbfcmnnahbblaa.quorum
open Go.ChangeShapes Go.WideShapes Go.ChangeAt Go.RowKit Go.Proofs.Aid Go.Proofs.Ytcbfcmnnahbblaa.texts
/-- Four rows. -/
structure Rows4 (L : Nat → List ByteArray) (A0 A1 A2 A3 : Option Addr) (c0 c1 c2 c3 : Nat) (w : World) : Prop where
  r0 : Row w 0 9 1 tc (.slice A0 (L 0).length c0) (L 0)
  r1 : Row w 0 9 1 tc (.slice A1 (L 1).length c1) (L 1)
  r2 : Row w 0 9 1 tc (.slice A2 (L 2).length c2) (L 2)
  r3 : Row w 0 9 1 tc (.slice A3 (L 3).length c3) (L 3)
theorem Rows4.kept {L : Nat → List ByteArray} {A0 A1 A2 A3 : Option Addr} {c0 c1 c2 c3 : Nat} {w w' : World} (h : Rows4 L A0 A1 A2 A3 c0 c1 c2 c3 w) {b : Option Nat} (hg : w.grownBy w' b)
    (hn : ∀ v (xs : List ByteArray), Row w 0 9 1 tc v xs → ∀ q, v.ownBlock = some q → b ≠ some q) : Rows4 L A0 A1 A2 A3 c0 c1 c2 c3 w' :=
  ⟨h.r0.kept hg (hn _ _ h.r0), h.r1.kept hg (hn _ _ h.r1), h.r2.kept hg (hn _ _ h.r2), h.r3.kept hg (hn _ _ h.r3)⟩
theorem Rows4.below {L : Nat → List ByteArray} {A0 A1 A2 A3 : Option Addr} {c0 c1 c2 c3 : Nat} {w w' : World} (h : Rows4 L A0 A1 A2 A3 c0 c1 c2 c3 w) (hb : Below w.heap.size w w') : Rows4 L A0 A1 A2 A3 c0 c1 c2 c3 w' :=
  h.kept (only_of_below hb none) (fun _ _ _ _ _ => by simp)
def SplitPost (W : World) (L : Nat → List ByteArray) (e : Ending) (w' : World) : Prop := ∃ A0 A1 A2 A3 c0 c1 c2 c3, e = .returned (.agg #[.slice A0 (L 0).length c0, .slice A1 (L 1).length c1, .slice A2 (L 2).length c2, .slice A3 (L 3).length c3]) ∧ Hid (Rows4 L A0 A1 A2 A3 c0 c1 c2 c3 w') ∧ Below W.heap.size W w'
set_option maxRecDepth 100000 in
set_option maxHeartbeats 8000000 in
theorem split_any (W : World) (A : Option Addr) (ca : Nat) (cs : List R38) (n : Int) (hl : cs.length ≤ 12) (h1 : Reads W W.heap.size 2 A cs.length (cs.flatMap R38.cells)) :
    Calls Try.prog 14 #[.slice A cs.length ca, .int .i64 n] W (SplitPost W (parts n cs cs.length)) := by
  obtain ⟨i0, hi0, hz0, hz1, hz2⟩ := info_parts info9
  have H1 := Lib.hid h1
  have HS := Lib.hid (Four.start W n cs)
  clear h1
  go_enter Try.func14, Try.ntmps14
  go_wp2_with fail
  generalize ((W.alloc (.cells #[.slice none 0 0, .slice none 0 0, .slice none 0 0, .slice none 0 0] 39)).alloc (.cells #[.slice none 0 0, .slice none 0 0, .slice none 0 0, .slice none 0 0] 39)) = w0 at *
  generalize hg : W.heap.size = g at *
  have HG := Lib.hid hg
  clear hg
  go_loopw [6, 7] (fun iv _ wr => ∃ (i : Nat) (v : Nat → Value), i ≤ cs.length ∧ iv = .int .i64 i ∧ Hid (Four W g v (parts n cs i) wr)) (fun iv _ _ => cs.length - (intOf iv).toNat)
  case atStart => exact ⟨0, _, by omega, rfl, HS⟩
  case round =>
    clear HS
    obtain ⟨i, v, hi, rfl, HF⟩ := hrel
    by_cases hlt : i < cs.length
    · obtain ⟨a1, q1, hb1, c0, -⟩ := elem38 (H1.out.below HF.out.low) hlt
      subst q1
      have hlen := fun k => parts_len n cs k i
      have hsucc := Lib.hid (fun k => parts_succ (n := n) (k := k) hlt)
      generalize cs[i].node_ = s at *
      have hdig := Lib.hid (bits_and3 (n / 2 ^ (2 * i)))
      have d1 : decide (i < cs.length) = true := by simpa using hlt
      have d2 : decide ((i : Int) < 16) = true := by simp; omega
      go_wp2_with fail
      rcases dig_four n i with hd | hd | hd | hd
      · have hd' : n / 2 ^ (2 * i) % 4 = 0 := hd
        have HP := Lib.hid (hsucc.out 0 hd)
        rw [hdig.out, hd']
        have hlk := hlen 0
        have hF2 := Lib.hid (HF.out.drew)
        have hk2 : wr.drew.cell? ⟨g + 1, 0, none⟩ = some (v 0) := hF2.out.at_ (by decide)
        have c2 : wr.drew.cell? (a1.add (i * 2)) = some (.string s) := c0
        have hk3 : (wr.drew.alloc (.cells #[.string s] 9)).cell? ⟨g + 1, 0, none⟩ = some (v 0) := (World.cell?_alloc_lt _ _ _ (by have := hF2.out.blk.lt; exact this)).trans hk2
        have hk4 : (wr.alloc (.cells #[.string s] 9)).drew.cell? ⟨g + 1, 0, none⟩ = some (v 0) := hk3
        have hrow := (hF2.out.row 0).alloc (.cells #[.string s] 9)
        have hsz : g + 1 < wr.heap.size := HF.out.blk.lt
        clear hd hd' hdig HF hsucc hlen d1 d2 c0
        go_region_law (refine step_append_rowL _ rfl _ _ 25 rfl (g + 2) 9 i0 (.string ⟨#[]⟩) 1 16 Try.underlying25 hi0 hz0 hz1 hz2 rfl (by decide) _ _ rfl hrow (fun _ => rfl) _ s rfl (cells_new _ _ _) (by simp [tc, Value.oneCell']) (by simp) (by unfold maxLen; omega) (by omega) (by have hzz : (wr.alloc (.cells #[.string s] 9)).heap.size = wr.heap.size + 1 := World.size_alloc _ _; show g + 2 ≤ (wr.alloc (.cells #[.string s] 9)).heap.size; omega) ?_; intro v' w1 hrow' hgrow hat; replace hgrow : (wr.drew.alloc (.cells #[.string s] 9)).grownBy w1 (v 0).ownBlock := hgrow; have hst := hF2.out.grow (k := 0) (by decide) hgrow; obtain ⟨hst1, hst2⟩ := hst; obtain ⟨A', c', hv'⟩ := hrow'.form; subst hv')
        all_goals
          have hLn : (parts n cs i 0 ++ [s]).length = (parts n cs i 0).length + 1 := by simp
          replace hat : (Value.slice A' (parts n cs i 0 ++ [s]).length c').ownBlock = (v 0).ownBlock ∨ (Value.slice A' (parts n cs i 0 ++ [s]).length c').ownBlock = some (wr.alloc (.cells #[.string s] 9)).heap.size := hat
          rw [World.size_alloc] at hat
          have hnew := Four.put hF2.out (k := 0) (by decide) hrow' hgrow hat
          rw [← HP.out, hLn] at hnew
          have HNEW := Lib.hid hnew
          clear hnew hat hrow' hgrow hst1 hst2 hrow hk2 hk3 hk4 c2 hF2
          go_wp2
          go_roundw
          case rel => exact ⟨i + 1, _, by omega, by go_num, HNEW⟩
          case measure => simp [intOf]; omega
      · have hd' : n / 2 ^ (2 * i) % 4 = 1 := hd
        have HP := Lib.hid (hsucc.out 1 hd)
        rw [hdig.out, hd']
        have hlk := hlen 1
        have hF2 := Lib.hid (HF.out.drew)
        have hk2 : wr.drew.cell? ⟨g + 1, 1, none⟩ = some (v 1) := hF2.out.at_ (by decide)
        have c2 : wr.drew.cell? (a1.add (i * 2)) = some (.string s) := c0
        have hk3 : (wr.drew.alloc (.cells #[.string s] 9)).cell? ⟨g + 1, 1, none⟩ = some (v 1) := (World.cell?_alloc_lt _ _ _ (by have := hF2.out.blk.lt; exact this)).trans hk2
        have hk4 : (wr.alloc (.cells #[.string s] 9)).drew.cell? ⟨g + 1, 1, none⟩ = some (v 1) := hk3
        have hrow := (hF2.out.row 1).alloc (.cells #[.string s] 9)
        have hsz : g + 1 < wr.heap.size := HF.out.blk.lt
        clear hd hd' hdig HF hsucc hlen d1 d2 c0
        go_region_law (refine step_append_rowL _ rfl _ _ 25 rfl (g + 2) 9 i0 (.string ⟨#[]⟩) 1 16 Try.underlying25 hi0 hz0 hz1 hz2 rfl (by decide) _ _ rfl hrow (fun _ => rfl) _ s rfl (cells_new _ _ _) (by simp [tc, Value.oneCell']) (by simp) (by unfold maxLen; omega) (by omega) (by have hzz : (wr.alloc (.cells #[.string s] 9)).heap.size = wr.heap.size + 1 := World.size_alloc _ _; show g + 2 ≤ (wr.alloc (.cells #[.string s] 9)).heap.size; omega) ?_; intro v' w1 hrow' hgrow hat; replace hgrow : (wr.drew.alloc (.cells #[.string s] 9)).grownBy w1 (v 1).ownBlock := hgrow; have hst := hF2.out.grow (k := 1) (by decide) hgrow; obtain ⟨hst1, hst2⟩ := hst; obtain ⟨A', c', hv'⟩ := hrow'.form; subst hv')
        all_goals
          have hLn : (parts n cs i 1 ++ [s]).length = (parts n cs i 1).length + 1 := by simp
          replace hat : (Value.slice A' (parts n cs i 1 ++ [s]).length c').ownBlock = (v 1).ownBlock ∨ (Value.slice A' (parts n cs i 1 ++ [s]).length c').ownBlock = some (wr.alloc (.cells #[.string s] 9)).heap.size := hat
          rw [World.size_alloc] at hat
          have hnew := Four.put hF2.out (k := 1) (by decide) hrow' hgrow hat
          rw [← HP.out, hLn] at hnew
          have HNEW := Lib.hid hnew
          clear hnew hat hrow' hgrow hst1 hst2 hrow hk2 hk3 hk4 c2 hF2
          go_wp2
          go_roundw
          case rel => exact ⟨i + 1, _, by omega, by go_num, HNEW⟩
          case measure => simp [intOf]; omega
      · have hd' : n / 2 ^ (2 * i) % 4 = 2 := hd
        have HP := Lib.hid (hsucc.out 2 hd)
        rw [hdig.out, hd']
        have hlk := hlen 2
        have hF2 := Lib.hid (HF.out.drew)
        have hk2 : wr.drew.cell? ⟨g + 1, 2, none⟩ = some (v 2) := hF2.out.at_ (by decide)
        have c2 : wr.drew.cell? (a1.add (i * 2)) = some (.string s) := c0
        have hk3 : (wr.drew.alloc (.cells #[.string s] 9)).cell? ⟨g + 1, 2, none⟩ = some (v 2) := (World.cell?_alloc_lt _ _ _ (by have := hF2.out.blk.lt; exact this)).trans hk2
        have hk4 : (wr.alloc (.cells #[.string s] 9)).drew.cell? ⟨g + 1, 2, none⟩ = some (v 2) := hk3
        have hrow := (hF2.out.row 2).alloc (.cells #[.string s] 9)
        have hsz : g + 1 < wr.heap.size := HF.out.blk.lt
        clear hd hd' hdig HF hsucc hlen d1 d2 c0
        go_region_law (refine step_append_rowL _ rfl _ _ 25 rfl (g + 2) 9 i0 (.string ⟨#[]⟩) 1 16 Try.underlying25 hi0 hz0 hz1 hz2 rfl (by decide) _ _ rfl hrow (fun _ => rfl) _ s rfl (cells_new _ _ _) (by simp [tc, Value.oneCell']) (by simp) (by unfold maxLen; omega) (by omega) (by have hzz : (wr.alloc (.cells #[.string s] 9)).heap.size = wr.heap.size + 1 := World.size_alloc _ _; show g + 2 ≤ (wr.alloc (.cells #[.string s] 9)).heap.size; omega) ?_; intro v' w1 hrow' hgrow hat; replace hgrow : (wr.drew.alloc (.cells #[.string s] 9)).grownBy w1 (v 2).ownBlock := hgrow; have hst := hF2.out.grow (k := 2) (by decide) hgrow; obtain ⟨hst1, hst2⟩ := hst; obtain ⟨A', c', hv'⟩ := hrow'.form; subst hv')
        all_goals
          have hLn : (parts n cs i 2 ++ [s]).length = (parts n cs i 2).length + 1 := by simp
          replace hat : (Value.slice A' (parts n cs i 2 ++ [s]).length c').ownBlock = (v 2).ownBlock ∨ (Value.slice A' (parts n cs i 2 ++ [s]).length c').ownBlock = some (wr.alloc (.cells #[.string s] 9)).heap.size := hat
          rw [World.size_alloc] at hat
          have hnew := Four.put hF2.out (k := 2) (by decide) hrow' hgrow hat
          rw [← HP.out, hLn] at hnew
          have HNEW := Lib.hid hnew
          clear hnew hat hrow' hgrow hst1 hst2 hrow hk2 hk3 hk4 c2 hF2
          go_wp2
          go_roundw
          case rel => exact ⟨i + 1, _, by omega, by go_num, HNEW⟩
          case measure => simp [intOf]; omega
      · have hd' : n / 2 ^ (2 * i) % 4 = 3 := hd
        have HP := Lib.hid (hsucc.out 3 hd)
        rw [hdig.out, hd']
        have hlk := hlen 3
        have hF2 := Lib.hid (HF.out.drew)
        have hk2 : wr.drew.cell? ⟨g + 1, 3, none⟩ = some (v 3) := hF2.out.at_ (by decide)
        have c2 : wr.drew.cell? (a1.add (i * 2)) = some (.string s) := c0
        have hk3 : (wr.drew.alloc (.cells #[.string s] 9)).cell? ⟨g + 1, 3, none⟩ = some (v 3) := (World.cell?_alloc_lt _ _ _ (by have := hF2.out.blk.lt; exact this)).trans hk2
        have hk4 : (wr.alloc (.cells #[.string s] 9)).drew.cell? ⟨g + 1, 3, none⟩ = some (v 3) := hk3
        have hrow := (hF2.out.row 3).alloc (.cells #[.string s] 9)
        have hsz : g + 1 < wr.heap.size := HF.out.blk.lt
        clear hd hd' hdig HF hsucc hlen d1 d2 c0
        go_region_law (refine step_append_rowL _ rfl _ _ 25 rfl (g + 2) 9 i0 (.string ⟨#[]⟩) 1 16 Try.underlying25 hi0 hz0 hz1 hz2 rfl (by decide) _ _ rfl hrow (fun _ => rfl) _ s rfl (cells_new _ _ _) (by simp [tc, Value.oneCell']) (by simp) (by unfold maxLen; omega) (by omega) (by have hzz : (wr.alloc (.cells #[.string s] 9)).heap.size = wr.heap.size + 1 := World.size_alloc _ _; show g + 2 ≤ (wr.alloc (.cells #[.string s] 9)).heap.size; omega) ?_; intro v' w1 hrow' hgrow hat; replace hgrow : (wr.drew.alloc (.cells #[.string s] 9)).grownBy w1 (v 3).ownBlock := hgrow; have hst := hF2.out.grow (k := 3) (by decide) hgrow; obtain ⟨hst1, hst2⟩ := hst; obtain ⟨A', c', hv'⟩ := hrow'.form; subst hv')
        all_goals
          have hLn : (parts n cs i 3 ++ [s]).length = (parts n cs i 3).length + 1 := by simp
          replace hat : (Value.slice A' (parts n cs i 3 ++ [s]).length c').ownBlock = (v 3).ownBlock ∨ (Value.slice A' (parts n cs i 3 ++ [s]).length c').ownBlock = some (wr.alloc (.cells #[.string s] 9)).heap.size := hat
          rw [World.size_alloc] at hat
          have hnew := Four.put hF2.out (k := 3) (by decide) hrow' hgrow hat
          rw [← HP.out, hLn] at hnew
          have HNEW := Lib.hid hnew
          clear hnew hat hrow' hgrow hst1 hst2 hrow hk2 hk3 hk4 c2 hF2
          go_wp2
          go_roundw
          case rel => exact ⟨i + 1, _, by omega, by go_num, HNEW⟩
          case measure => simp [intOf]; omega
    · have hkl : i = cs.length := by omega
      subst hkl
      have d1 : decide (cs.length < cs.length) = false := by simp
      obtain ⟨A0, c0, e0⟩ := (HF.out.row 0).form
      obtain ⟨A1, c1, e1⟩ := (HF.out.row 1).form
      obtain ⟨A2, c2, e2⟩ := (HF.out.row 2).form
      obtain ⟨A3, c3, e3⟩ := (HF.out.row 3).form
      have x0 : wr.cell? ⟨g + 1, 0, none⟩ = some (.slice A0 (parts n cs cs.length 0).length c0) := by rw [← e0]; exact HF.out.at_ (by decide)
      have x1 : wr.cell? ⟨g + 1, 1, none⟩ = some (.slice A1 (parts n cs cs.length 1).length c1) := by rw [← e1]; exact HF.out.at_ (by decide)
      have x2 : wr.cell? ⟨g + 1, 2, none⟩ = some (.slice A2 (parts n cs cs.length 2).length c2) := by rw [← e2]; exact HF.out.at_ (by decide)
      have x3 : wr.cell? ⟨g + 1, 3, none⟩ = some (.slice A3 (parts n cs cs.length 3).length c3) := by rw [← e3]; exact HF.out.at_ (by decide)
      have y0 : wr.cell? ⟨g, 0, none⟩ = some (.slice none 0 0) := HF.out.blk0.cell 0
      have z0 : wr.frozen? ⟨g, 0, none⟩ = false := HF.out.blk0.frozen 0
      have y1 : wr.cell? ⟨g, 1, none⟩ = some (.slice none 0 0) := HF.out.blk0.cell 1
      have z1 : wr.frozen? ⟨g, 1, none⟩ = false := HF.out.blk0.frozen 1
      have y2 : wr.cell? ⟨g, 2, none⟩ = some (.slice none 0 0) := HF.out.blk0.cell 2
      have z2 : wr.frozen? ⟨g, 2, none⟩ = false := HF.out.blk0.frozen 2
      have y3 : wr.cell? ⟨g, 3, none⟩ = some (.slice none 0 0) := HF.out.blk0.cell 3
      have z3 : wr.frozen? ⟨g, 3, none⟩ = false := HF.out.blk0.frozen 3
      have hrow : ∀ k, Row ((((wr.setCell ⟨g, 0, none⟩ (v 0)).setCell ⟨g, 1, none⟩ (v 1)).setCell ⟨g, 2, none⟩ (v 2)).setCell ⟨g, 3, none⟩ (v 3)) (g + 2) 9 1 tc (v k) (parts n cs cs.length k) := fun k => ((((HF.out.row k).setCell (p := ⟨g, 0, none⟩) (by show g < g + 2; omega) (v 0)).setCell (p := ⟨g, 1, none⟩) (by show g < g + 2; omega) (v 1)).setCell (p := ⟨g, 2, none⟩) (by show g < g + 2; omega) (v 2)).setCell (p := ⟨g, 3, none⟩) (by show g < g + 2; omega) (v 3)
      have hlow := (((HF.out.low.setCell (p := ⟨g, 0, none⟩) (Nat.le_refl _) (v 0)).setCell (p := ⟨g, 1, none⟩) (Nat.le_refl _) (v 1)).setCell (p := ⟨g, 2, none⟩) (Nat.le_refl _) (v 2)).setCell (p := ⟨g, 3, none⟩) (Nat.le_refl _) (v 3)
      rw [e0, e1, e2, e3] at hlow
      have hr0 := (hrow 0).more (Nat.zero_le (g + 2))
      have hr1 := (hrow 1).more (Nat.zero_le (g + 2))
      have hr2 := (hrow 2).more (Nat.zero_le (g + 2))
      have hr3 := (hrow 3).more (Nat.zero_le (g + 2))
      rw [e0, e1, e2, e3] at hr0 hr1 hr2 hr3
      have HRD := Lib.hid (Rows4.mk hr0 hr1 hr2 hr3)
      have HLOW := Lib.hid hlow
      clear hrow hlow hr0 hr1 hr2 hr3 e0 e1 e2 e3 HF
      go_wp2
      refine bodyPost_ret (v := .agg #[.slice A0 (parts n cs cs.length 0).length c0, .slice A1 (parts n cs cs.length 1).length c1, .slice A2 (parts n cs cs.length 2).length c2, .slice A3 (parts n cs cs.length 3).length c3]) ?_ rfl ⟨A0, A1, A2, A3, c0, c1, c2, c3, rfl, HRD, by rw [HG.out]; exact HLOW.out⟩
      simp [results, Try.results14, go_sem, y0, y1, y2, y3]
end Go.Proofs.Ytcbfcmnnahbblaa.quorum
