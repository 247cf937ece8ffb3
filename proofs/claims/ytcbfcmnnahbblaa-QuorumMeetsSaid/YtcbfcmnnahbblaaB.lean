/- How many entries of a list there are. -/
import Derived.Test.YtcbfcmnnahbblaaA
namespace Go.Proofs.Ytcbfcmnnahbblaa.quorum
open Go.ChangeShapes Go.WideShapes Go.ChangeAt Go.RowKit Go.Proofs.Aid Go.Proofs.Ytcbfcmnnahbblaa.texts
def cntA (f : ByteArray → Bool) (cs : List R38) (k : Nat) : Nat := ((cs.take k).filter fun c => f c.node_).length
def cntB (f : ByteArray → Bool) (cs : List R38) (k : Nat) : Nat := ((cs.take k).filter fun c => f c.node_ && c.primary).length
theorem cnt_no {f : ByteArray → Bool} {cs : List R38} {k : Nat} (h : k < cs.length) (hf : f cs[k].node_ = false) : cntA f cs (k + 1) = cntA f cs k ∧ cntB f cs (k + 1) = cntB f cs k := by
  unfold cntA cntB; simp only [List.take_succ_eq_append_getElem h, List.filter_append, List.length_append]; simp [hf]
theorem cnt_yes {f : ByteArray → Bool} {cs : List R38} {k : Nat} (h : k < cs.length) (hf : f cs[k].node_ = true) (hp : cs[k].primary = true) : cntA f cs (k + 1) = cntA f cs k + 1 ∧ cntB f cs (k + 1) = cntB f cs k + 1 := by
  unfold cntA cntB; simp only [List.take_succ_eq_append_getElem h, List.filter_append, List.length_append]; simp [hf, hp]
theorem cnt_one {f : ByteArray → Bool} {cs : List R38} {k : Nat} (h : k < cs.length) (hf : f cs[k].node_ = true) (hp : cs[k].primary = false) : cntA f cs (k + 1) = cntA f cs k + 1 ∧ cntB f cs (k + 1) = cntB f cs k := by
  unfold cntA cntB; simp only [List.take_succ_eq_append_getElem h, List.filter_append, List.length_append]; simp [hf, hp]
theorem cnt_le (f : ByteArray → Bool) (cs : List R38) (k : Nat) : cntA f cs k ≤ k ∧ cntB f cs k ≤ k := by
  unfold cntA cntB
  exact ⟨Nat.le_trans (List.length_filter_le _ _) (List.length_take_le _ _), Nat.le_trans (List.length_filter_le _ _) (List.length_take_le _ _)⟩
def nA (f : ByteArray → Bool) (cs : List R38) : Nat := cntA f cs cs.length
def nB (f : ByteArray → Bool) (cs : List R38) : Nat := cntB f cs cs.length
theorem elem38 {w : World} {B : Nat} {A : Option Addr} {cs : List R38} (h : Reads w B 2 A cs.length (cs.flatMap R38.cells)) {i : Nat} (hi : i < cs.length) :
    ∃ ad, A = some ad ∧ ad.block < B ∧ w.cell? (ad.add (i * 2)) = some (.string cs[i].node_) ∧ w.cell? ⟨(ad.add (i * 2)).block, (ad.add (i * 2)).off + 1, none⟩ = some (.bool cs[i].primary) := by
  obtain ⟨ad, e, hb, hc⟩ := h.elem R38.len hi
  have x1 : ∀ j, (⟨(ad.add (i * 2)).block, (ad.add (i * 2)).off + (j + 1), none⟩ : Addr) = ad.add (i * 2 + (j + 1)) := fun j => by rw [← add_of_add]; rfl
  refine ⟨ad, e, hb, by simpa using hc 0 _ rfl, ?_⟩
  rw [x1]; exact hc 1 _ rfl
def CntPost (w : World) (a b : Nat) (e : Ending) (w' : World) : Prop := e = .returned (.agg #[.int .i64 a, .int .i64 b]) ∧ Below w.heap.size w w'
set_option maxRecDepth 100000 in
set_option maxHeartbeats 4000000 in
theorem count_any (w : World) (A : Option Addr) (ca : Nat) (cs : List R38) (hl : cs.length ≤ 1000) (h1 : Reads w w.heap.size 2 A cs.length (cs.flatMap R38.cells)) (F : FuncId) (hF : Enters F) (p : Addr) (f : ByteArray → Bool) (hP : Pred w.heap.size w F p f) :
    Calls Try.prog 15 #[.slice A cs.length ca, .func (.func F) #[] #[.pointer (some p)]] w (CntPost w (nA f cs) (nB f cs)) := by
  have H1 := Lib.hid h1
  have HP := Lib.hid hP
  unfold Enters at hF
  clear h1 hP
  have hb1 := Lib.hid ((Blk.new w 43 #[.int .i64 0, .int .i64 0]).alloc (.cells #[.int .i64 0, .int .i64 0] 43))
  have hb2 := Blk.new (w.alloc (.cells #[.int .i64 0, .int .i64 0] 43)) 43 #[.int .i64 0, .int .i64 0]
  rw [World.size_alloc] at hb2
  have hl2 := Lib.hid (below_lit2 w (.cells #[.int .i64 0, .int .i64 0] 43) (.cells #[.int .i64 0, .int .i64 0] 43))
  have HB2 := Lib.hid hb2
  clear hb2
  go_enter Try.func15, Try.ntmps15
  go_wp2_with fail
  generalize (w.alloc (.cells #[.int .i64 0, .int .i64 0] 43)).alloc (.cells #[.int .i64 0, .int .i64 0] 43) = w2 at *
  generalize hg : w.heap.size = g at *
  have HG := Lib.hid hg
  clear hg
  go_loopw [10] (fun iv wr => ∃ k : Nat, k ≤ cs.length ∧ iv = .int .i64 k ∧ Hid (Blk wr g 43 #[.int .i64 0, .int .i64 0]) ∧ Hid (Blk wr (g + 1) 43 #[.int .i64 (cntA f cs k), .int .i64 (cntB f cs k)]) ∧ Hid (Below g w wr)) (fun iv _ => cs.length - (intOf iv).toNat)
  case atStart => exact ⟨0, by omega, rfl, hb1, HB2, hl2⟩
  case round =>
    clear hb1 HB2 hl2
    obtain ⟨k, hk, rfl, hb0, hb, hlow⟩ := hrel
    have hgl := hb.out.lt
    have hcle := cnt_le f cs k
    by_cases hlt : k < cs.length
    · obtain ⟨a1, q1, -, c0, c1⟩ := elem38 (H1.out.below hlow.out) hlt
      subst q1
      have hn := Lib.hid (fun h => cnt_no (f := f) hlt h)
      have hy := Lib.hid (fun h h2 => cnt_yes (f := f) hlt h h2)
      have ho := Lib.hid (fun h h2 => cnt_one (f := f) hlt h h2)
      generalize hcsk : cs[k] = c at *
      obtain ⟨s, pr⟩ := c
      clear hcsk
      simp only at c0 c1 hn hy ho
      have hba := (hb.out.alloc (.cells #[.string s, .bool pr] 38))
      have hb0a := (hb0.out.alloc (.cells #[.string s, .bool pr] 38))
      have hxa := Blk.new wr 38 #[.string s, .bool pr]
      have hla := hlow.out.alloc (by omega) (.cells #[.string s, .bool pr] 38)
      have HCall := Lib.hid (HP.out (wr.alloc (.cells #[.string s, .bool pr] 38)) s hla)
      have HBA := Lib.hid hba
      have HB0A := Lib.hid hb0a
      have HXA := Lib.hid hxa
      have HLA := Lib.hid hla
      clear hba hb0a hxa hla hb hb0 hlow
      obtain ⟨hc1, hc2⟩ := hcle
      cases hf : f s with
      | false =>
        obtain ⟨e1, e2⟩ := hn.out hf
        have E1 := Lib.hid e1
        have E2 := Lib.hid e2
        rw [hf] at HCall
        clear hf e1 e2 hn hy ho
        go_wp2_with fail
        refine HCall.out.mono ?_
        rintro e w3 ⟨rfl, h3⟩
        have hb3 := Lib.hid (HBA.out.below h3 HBA.out.lt)
        have hb03 := Lib.hid (HB0A.out.below h3 HB0A.out.lt)
        have hl3 := Lib.hid (HLA.out.trans (h3.mono (by have := HB0A.out.lt; omega)))
        go_wp2
        go_roundw
        case rel => exact ⟨k + 1, by omega, by go_num, hb03, by rw [E1.out, E2.out]; exact hb3, hl3⟩
        case measure => simp [intOf]; omega
      | true =>
        rw [hf] at HCall
        cases pr with
        | true =>
          obtain ⟨e1, e2⟩ := hy.out hf rfl
          have E1 := Lib.hid e1
          have E2 := Lib.hid e2
          clear hf e1 e2 hn hy ho
          go_wp2_with fail
          refine HCall.out.mono ?_
          rintro e w3 ⟨rfl, h3⟩
          have hb3 := HBA.out.below h3 HBA.out.lt
          have hb03 := HB0A.out.below h3 HB0A.out.lt
          have hx3 := HXA.out.below h3 HXA.out.lt
          have hl3 := HLA.out.trans (h3.mono (by have := HB0A.out.lt; omega))
          have hd0 : w3.cell? ⟨g + 1, 0, none⟩ = some (.int .i64 (cntA f cs k)) := hb3.cell 0
          have hd1 : w3.cell? ⟨g + 1, 1, none⟩ = some (.int .i64 (cntB f cs k)) := hb3.cell 1
          have hdf0 := hb3.frozen 0
          have hdf1 := hb3.frozen 1
          have hx1 : w3.cell? ⟨wr.heap.size, 1, none⟩ = some (.bool true) := hx3.cell 1
          have hne : ¬ (wr.heap.size = g + 1) := by omega
          have hbf := Lib.hid ((hb3.set_ 0 (.int .i64 ((cntA f cs k : Int) + 1))).set_ 1 (.int .i64 ((cntB f cs k : Int) + 1)))
          have hb0f := Lib.hid ((hb03.far (p := ⟨g + 1, 0, none⟩) (by show g ≠ g + 1; omega) (.int .i64 ((cntA f cs k : Int) + 1))).far (p := ⟨g + 1, 1, none⟩) (by show g ≠ g + 1; omega) (.int .i64 ((cntB f cs k : Int) + 1)))
          have hlf := Lib.hid ((hl3.setCell (p := ⟨g + 1, 0, none⟩) (by show g ≤ g + 1; omega) (.int .i64 ((cntA f cs k : Int) + 1))).setCell (p := ⟨g + 1, 1, none⟩) (by show g ≤ g + 1; omega) (.int .i64 ((cntB f cs k : Int) + 1)))
          clear hb3 hb03 hx3 hl3 h3 HCall HBA HB0A HXA HLA
          go_wp2
          go_roundw
          case rel => exact ⟨k + 1, by omega, by go_num, hb0f, by rw [E1.out, E2.out]; exact hbf, hlf⟩
          case measure => simp [intOf]; omega
        | false =>
          obtain ⟨e1, e2⟩ := ho.out hf rfl
          have E1 := Lib.hid e1
          have E2 := Lib.hid e2
          clear hf e1 e2 hn hy ho
          go_wp2_with fail
          refine HCall.out.mono ?_
          rintro e w3 ⟨rfl, h3⟩
          have hb3 := HBA.out.below h3 HBA.out.lt
          have hb03 := HB0A.out.below h3 HB0A.out.lt
          have hx3 := HXA.out.below h3 HXA.out.lt
          have hl3 := HLA.out.trans (h3.mono (by have := HB0A.out.lt; omega))
          have hd0 : w3.cell? ⟨g + 1, 0, none⟩ = some (.int .i64 (cntA f cs k)) := hb3.cell 0
          have hdf0 := hb3.frozen 0
          have hx1 : w3.cell? ⟨wr.heap.size, 1, none⟩ = some (.bool false) := hx3.cell 1
          have hne : ¬ (wr.heap.size = g + 1) := by omega
          have hbf := Lib.hid (hb3.set_ 0 (.int .i64 ((cntA f cs k : Int) + 1)))
          have hb0f := Lib.hid (hb03.far (p := ⟨g + 1, 0, none⟩) (by show g ≠ g + 1; omega) (.int .i64 ((cntA f cs k : Int) + 1)))
          have hlf := Lib.hid (hl3.setCell (p := ⟨g + 1, 0, none⟩) (by show g ≤ g + 1; omega) (.int .i64 ((cntA f cs k : Int) + 1)))
          clear hb3 hb03 hx3 hl3 h3 HCall HBA HB0A HXA HLA
          go_wp2
          go_roundw
          case rel => exact ⟨k + 1, by omega, by go_num, hb0f, by rw [E1.out, E2.out]; exact hbf, hlf⟩
          case measure => simp [intOf]; omega
    · have hkl : k = cs.length := by omega
      subst hkl
      have hd0 : wr.cell? ⟨g + 1, 0, none⟩ = some (.int .i64 (cntA f cs cs.length)) := hb.out.cell 0
      have hd1 : wr.cell? ⟨g + 1, 1, none⟩ = some (.int .i64 (cntB f cs cs.length)) := hb.out.cell 1
      have hd2 : wr.cell? ⟨g, 0, none⟩ = some (.int .i64 0) := hb0.out.cell 0
      have hd3 : wr.cell? ⟨g, 1, none⟩ = some (.int .i64 0) := hb0.out.cell 1
      have hf0 := hb0.out.frozen 0
      have hf1 := hb0.out.frozen 1
      go_wp2
      have hlf := Lib.hid ((hlow.out.setCell (p := ⟨g, 0, none⟩) (Nat.le_refl _) (.int .i64 (cntA f cs cs.length))).setCell (p := ⟨g, 1, none⟩) (Nat.le_refl _) (.int .i64 (cntB f cs cs.length)))
      have hz := hb0.out.lt
      refine bodyPost_ret (v := .agg #[.int .i64 (cntA f cs cs.length), .int .i64 (cntB f cs cs.length)]) ?_ rfl ⟨rfl, by rw [HG.out]; exact hlf.out⟩
      simp [results, Try.results15, go_sem, hd2, hd3]
end Go.Proofs.Ytcbfcmnnahbblaa.quorum
