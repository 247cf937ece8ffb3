/- Entries of a registry: Set. -/
import Derived.Test.YtjbompimlopdiaaGreatDoorRgL
namespace Go.Proofs.YtjbompimlopdiaaGreatDoor.rgy
open Go.ChangeShapes Go.WideShapes Go.ChangeAt Go.RowKit Go.Proofs.Aid Go.Proofs.YtjbompimlopdiaaGreatDoor.name Go.Proofs.YtjbompimlopdiaaGreatDoor.reg
def En.zero : En := ⟨ByteArray.empty, Rg.zero⟩
def setE (l : List En) (by_ key val : ByteArray) : En × Int :=
  if may l && isKey key then (if ((get l key).next by_ val).2 = 0 then (⟨key, ((get l key).next by_ val).1⟩, 0) else (En.zero, ((get l key).next by_ val).2)) else (En.zero, 1)
theorem get_sz {l : List En} {s : ByteArray} (h : ∀ r ∈ l, r.sz) : (get l s).by_.size ≤ maxLen ∧ (get l s).value.size ≤ maxLen := by
  unfold get look
  cases e : l.find? (fun e => decide (e.key = s)) with
  | none => exact ⟨Nat.zero_le _, Nat.zero_le _⟩
  | some x => exact (h x (List.mem_of_find?_eq_some e)).2
theorem set4 {w : World} {g : Nat} {ty : TypeId} {a0 a1 a2 a3 x y z u : Value} (hb : Blk w g ty #[a0, a1, a2, a3]) : Blk ((((w.setCell ⟨g, 0, none⟩ x).setCell ⟨g, 1, none⟩ y).setCell ⟨g, 2, none⟩ z).setCell ⟨g, 3, none⟩ u) g ty #[x, y, z, u] :=
  (((hb.set_ 0 x).set_ 1 y).set_ 2 z).set_ 3 u
theorem low4 {B : Nat} {W w : World} {g : Nat} (h : Below B W w) (hg : B ≤ g) (x y z u : Value) : Below B W ((((w.setCell ⟨g, 0, none⟩ x).setCell ⟨g, 1, none⟩ y).setCell ⟨g, 2, none⟩ z).setCell ⟨g, 3, none⟩ u) :=
  (((h.setCell (p := ⟨g, 0, none⟩) hg x).setCell (p := ⟨g, 1, none⟩) hg y).setCell (p := ⟨g, 2, none⟩) hg z).setCell (p := ⟨g, 3, none⟩) hg u
set_option maxRecDepth 100000 in
set_option maxHeartbeats 8000000 in
theorem set_any (w : World) (A : Option Addr) (ca : Nat) (xs : List En) (s k t : ByteArray) (hl : xs.length ≤ 100000) (h1 : Reads w w.heap.size 4 A xs.length (xs.flatMap En.cells)) (hz : ∀ r ∈ xs, r.sz) (hs : s.size ≤ maxLen) (hk : k.size ≤ maxLen) (ht : t.size ≤ maxLen) :
    Calls Tryz.prog 38 #[.slice A xs.length ca, .string s, .string k, .string t] w fun e w' => e = .returned (.tuple #[(setE xs s k t).1.val, .int .i64 (setE xs s k t).2]) ∧ Below w.heap.size w w' := by
  have HS := Lib.hid hz
  have S1 := Lib.hid hs
  have S2 := Lib.hid hk
  have S3 := Lib.hid ht
  have hl0 := Lib.hid (below_lit w (.cells #[.string ⟨#[]⟩, .int .i64 0, .string ⟨#[]⟩, .string ⟨#[]⟩] 38))
  have HB0 := Lib.hid (Blk.new w 38 #[.string ⟨#[]⟩, .int .i64 0, .string ⟨#[]⟩, .string ⟨#[]⟩])
  have H1 := Lib.hid (h1.more_below hl0.out)
  have hE := Lib.hid (show setE xs s k t = if may xs && isKey k then (if ((get xs k).next s t).2 = 0 then (⟨k, ((get xs k).next s t).1⟩, 0) else (En.zero, ((get xs k).next s t).2)) else (En.zero, 1) from rfl)
  have hgs := get_sz (s := k) hz
  have HGS := Lib.hid hgs
  have hgz0 : w.heap.size ≤ (w.alloc (.cells #[.string ⟨#[]⟩, .int .i64 0, .string ⟨#[]⟩, .string ⟨#[]⟩] 38)).heap.size := hl0.out.size
  unfold maxLen at hk
  clear h1 hz hs ht hgs
  cases hm : may xs with
  | false =>
    rw [hm, Bool.false_and, if_neg (by simp)] at hE
    have HK := Lib.hid (chk_no hm)
    clear hm
    go_enter Tryz.func38, Tryz.ntmps38
    go_wp2_with fail
    generalize w.alloc (.cells #[.string ⟨#[]⟩, .int .i64 0, .string ⟨#[]⟩, .string ⟨#[]⟩] 38) = w0 at *
    refine (chk_any _ A ca xs (by omega) H1.out HS.out).mono ?_
    rw [HK.out]
    rintro e w1 ⟨rfl, hb⟩
    have hb1 := HB0.out.below hb HB0.out.lt
    have HL := Lib.hid (hl0.out.trans (hb.mono hgz0))
    have f0 := hb1.frozen 0
    have f1 := hb1.frozen 1
    have f2 := hb1.frozen 2
    have f3 := hb1.frozen 3
    have d0 : w1.cell? ⟨w.heap.size, 0, none⟩ = some (.string ⟨#[]⟩) := by rw [hb1.cell]; rfl
    have d1 : w1.cell? ⟨w.heap.size, 1, none⟩ = some (.int .i64 0) := by rw [hb1.cell]; rfl
    have d2 : w1.cell? ⟨w.heap.size, 2, none⟩ = some (.string ⟨#[]⟩) := by rw [hb1.cell]; rfl
    have d3 : w1.cell? ⟨w.heap.size, 3, none⟩ = some (.string ⟨#[]⟩) := by rw [hb1.cell]; rfl
    clear hb hb1
    go_wp2
    exact bodyPost_ret (v := .tuple #[.agg #[.string ⟨#[]⟩, .int .i64 0, .string ⟨#[]⟩, .string ⟨#[]⟩], .int .i64 1]) (by simp [results, Tryz.results38, go_sem, d0, d1, d2, d3] <;> rfl) rfl ⟨by rw [hE.out]; rfl, low4 HL.out (Nat.le_refl _) _ _ _ _⟩
  | true =>
    have HK := Lib.hid (chk_ok hm)
    rw [hm, Bool.true_and] at hE
    clear hm
    cases hik : isKey k with
    | false =>
      rw [hik, if_neg (by simp)] at hE
      have HIK := Lib.hid hik
      clear hik
      go_enter Tryz.func38, Tryz.ntmps38
      go_wp2_with fail
      generalize w.alloc (.cells #[.string ⟨#[]⟩, .int .i64 0, .string ⟨#[]⟩, .string ⟨#[]⟩] 38) = w0 at *
      refine (chk_any _ A ca xs (by omega) H1.out HS.out).mono ?_
      rw [HK.out]
      rintro e w1 ⟨rfl, hb⟩
      have hb1 := HB0.out.below hb HB0.out.lt
      have HL := Lib.hid (hl0.out.trans (hb.mono hgz0))
      have H2 := Lib.hid (H1.out.more_below hb)
      have HB1 := Lib.hid hb1
      clear hb hb1
      go_wp2_with fail
      refine (isKey_any k w1 S2.out).mono ?_
      rw [HIK.out]
      rintro e wk ⟨rfl, rfl⟩

      have f0 := HB1.out.frozen 0
      have f1 := HB1.out.frozen 1
      have f2 := HB1.out.frozen 2
      have f3 := HB1.out.frozen 3
      have d0 : wk.cell? ⟨w.heap.size, 0, none⟩ = some (.string ⟨#[]⟩) := by rw [HB1.out.cell]; rfl
      have d1 : wk.cell? ⟨w.heap.size, 1, none⟩ = some (.int .i64 0) := by rw [HB1.out.cell]; rfl
      have d2 : wk.cell? ⟨w.heap.size, 2, none⟩ = some (.string ⟨#[]⟩) := by rw [HB1.out.cell]; rfl
      have d3 : wk.cell? ⟨w.heap.size, 3, none⟩ = some (.string ⟨#[]⟩) := by rw [HB1.out.cell]; rfl
      go_wp2
      exact bodyPost_ret (v := .tuple #[.agg #[.string ⟨#[]⟩, .int .i64 0, .string ⟨#[]⟩, .string ⟨#[]⟩], .int .i64 1]) (by simp [results, Tryz.results38, go_sem, d0, d1, d2, d3] <;> rfl) rfl ⟨by rw [hE.out]; rfl, low4 HL.out (Nat.le_refl _) _ _ _ _⟩
    | true =>
      rw [hik, if_pos rfl] at hE
      have HIK := Lib.hid hik
      clear hik
      generalize hgk : get xs k = gk at *
      obtain ⟨gn, gb, gv⟩ := gk
      have HGK := Lib.hid hgk
      clear hgk
      generalize hnx : Rg.next ⟨gn, gb, gv⟩ s t = nx at *
      have HNX := Lib.hid hnx
      clear hnx
      obtain ⟨⟨rn, rb, rv⟩, c⟩ := nx
      simp only at hE
      go_enter Tryz.func38, Tryz.ntmps38
      go_wp2_with fail
      generalize w.alloc (.cells #[.string ⟨#[]⟩, .int .i64 0, .string ⟨#[]⟩, .string ⟨#[]⟩] 38) = w0 at *
      refine (chk_any _ A ca xs (by omega) H1.out HS.out).mono ?_
      rw [HK.out]
      rintro e w1 ⟨rfl, hb⟩
      have hb1 := HB0.out.below hb HB0.out.lt
      have HL := Lib.hid (hl0.out.trans (hb.mono hgz0))
      have H2 := Lib.hid (H1.out.more_below hb)
      have HB1 := Lib.hid hb1
      clear hb hb1
      go_wp2_with fail
      refine (isKey_any k w1 S2.out).mono ?_
      rw [HIK.out]
      rintro e wk ⟨rfl, rfl⟩
      go_wp2_with fail
      refine (get_any _ A ca xs k (by omega) H2.out).mono ?_
      rw [HGK.out]
      rintro e w2 ⟨rfl, hb⟩
      have hb2 := HB1.out.below hb HB1.out.lt
      have HL2 := Lib.hid (HL.out.trans (hb.mono HL.out.size))
      have HB2 := Lib.hid hb2
      clear hb hb2
      go_wp2_with fail
      refine (next_any ⟨gn, gb, gv⟩ s t _ HGS.out.1 HGS.out.2 S1.out S3.out).mono ?_
      rw [HNX.out]
      rintro e w3 ⟨rfl, hb⟩
      have hb3 := HB2.out.below hb HB2.out.lt
      have HL3 := Lib.hid (HL2.out.trans (hb.mono HL2.out.size))
      have HB3 := Lib.hid hb3
      have hgl := HB3.out.lt
      clear hb hb3

      have f0 := HB3.out.frozen 0
      have f1 := HB3.out.frozen 1
      have f2 := HB3.out.frozen 2
      have f3 := HB3.out.frozen 3
      have d0 : w3.cell? ⟨w.heap.size, 0, none⟩ = some (.string ⟨#[]⟩) := by rw [HB3.out.cell]; rfl
      have d1 : w3.cell? ⟨w.heap.size, 1, none⟩ = some (.int .i64 0) := by rw [HB3.out.cell]; rfl
      have d2 : w3.cell? ⟨w.heap.size, 2, none⟩ = some (.string ⟨#[]⟩) := by rw [HB3.out.cell]; rfl
      have d3 : w3.cell? ⟨w.heap.size, 3, none⟩ = some (.string ⟨#[]⟩) := by rw [HB3.out.cell]; rfl
      have hne : ¬ (w3.heap.size = w.heap.size) := by omega
      by_cases hc : c = 0
      · subst hc
        rw [if_pos rfl] at hE
        have h4 := Lib.hid ((set4 (x := .string k) (y := .int .i64 rn) (z := .string rb) (u := .string rv) HB3.out).alloc (.cells #[.int .i64 rn, .string rb, .string rv] 36))
        have hlf := Lib.hid ((low4 HL3.out (Nat.le_refl _) (.string k) (.int .i64 rn) (.string rb) (.string rv)).alloc (by simp; omega) (.cells #[.int .i64 rn, .string rb, .string rv] 36))
        clear HB0 HB1 HB2
        go_wp2
        exact bodyPost_ret (v := .tuple #[.agg #[.string k, .int .i64 rn, .string rb, .string rv], .int .i64 0]) (by have r0 := h4.out.cell 0; have r1 := h4.out.cell 1; have r2 := h4.out.cell 2; have r3 := h4.out.cell 3; simp [results, Tryz.results38, go_sem, r0, r1, r2, r3]) rfl ⟨by rw [hE.out], hlf.out⟩
      · rw [if_neg hc] at hE
        have hc2 : (c != 0) = true := by rw [bne_iff_ne]; exact hc
        have h4 := Lib.hid ((set4 (x := .string ⟨#[]⟩) (y := .int .i64 0) (z := .string ⟨#[]⟩) (u := .string ⟨#[]⟩) HB3.out).alloc (.cells #[.int .i64 rn, .string rb, .string rv] 36))
        have hlf := Lib.hid ((low4 HL3.out (Nat.le_refl _) (.string ⟨#[]⟩) (.int .i64 0) (.string ⟨#[]⟩) (.string ⟨#[]⟩)).alloc (by simp; omega) (.cells #[.int .i64 rn, .string rb, .string rv] 36))
        clear HB0 HB1 HB2
        go_wp2
        exact bodyPost_ret (v := .tuple #[.agg #[.string ⟨#[]⟩, .int .i64 0, .string ⟨#[]⟩, .string ⟨#[]⟩], .int .i64 c]) (by have r0 := h4.out.cell 0; have r1 := h4.out.cell 1; have r2 := h4.out.cell 2; have r3 := h4.out.cell 3; simp [results, Tryz.results38, go_sem, r0, r1, r2, r3] <;> rfl) rfl ⟨by rw [hE.out]; rfl, hlf.out⟩
set_option maxRecDepth 100000 in
set_option maxHeartbeats 8000000 in
theorem rset_any (w : World) (A : Option Addr) (ca : Nat) (xs : List En) (s k t : ByteArray) (hl : xs.length ≤ 100000) (h1 : Reads w w.heap.size 4 A xs.length (xs.flatMap En.cells)) (hz : ∀ r ∈ xs, r.sz) (hs : s.size ≤ maxLen) (hk : k.size ≤ maxLen) (ht : t.size ≤ maxLen) :
    Calls Tryz.prog 39 #[.slice A xs.length ca, .string s, .string k, .string t] w fun e w' => e = .returned (.tuple #[(setE xs s k t).1.val, .int .i64 (setE xs s k t).2]) ∧ Below w.heap.size w w' := by
  have HS := Lib.hid hz
  have S1 := Lib.hid hs
  have S2 := Lib.hid hk
  have S3 := Lib.hid ht
  have hl0 := Lib.hid (below_lit w (.cells #[.string ⟨#[]⟩, .int .i64 0, .string ⟨#[]⟩, .string ⟨#[]⟩] 38))
  have HB0 := Lib.hid (Blk.new w 38 #[.string ⟨#[]⟩, .int .i64 0, .string ⟨#[]⟩, .string ⟨#[]⟩])
  have H1 := Lib.hid (h1.more_below hl0.out)
  have hE := Lib.hid (show setE xs s k t = if may xs && isKey k then (if ((get xs k).next s t).2 = 0 then (⟨k, ((get xs k).next s t).1⟩, 0) else (En.zero, ((get xs k).next s t).2)) else (En.zero, 1) from rfl)
  have hgs := get_sz (s := k) hz
  have HGS := Lib.hid hgs
  have hgz0 : w.heap.size ≤ (w.alloc (.cells #[.string ⟨#[]⟩, .int .i64 0, .string ⟨#[]⟩, .string ⟨#[]⟩] 38)).heap.size := hl0.out.size
  unfold maxLen at hk
  clear h1 hz hs ht hgs
  cases hm : may xs with
  | false =>
    rw [hm, Bool.false_and, if_neg (by simp)] at hE
    have HK := Lib.hid (id hm)
    clear hm
    go_enter Tryz.func39, Tryz.ntmps39
    go_wp2_with fail
    generalize w.alloc (.cells #[.string ⟨#[]⟩, .int .i64 0, .string ⟨#[]⟩, .string ⟨#[]⟩] 38) = w0 at *
    refine (rmayL_any _ A ca xs (by omega) H1.out HS.out).mono ?_
    rw [HK.out]
    rintro e w1 ⟨rfl, hb⟩
    have hb1 := HB0.out.below hb HB0.out.lt
    have HL := Lib.hid (hl0.out.trans (hb.mono hgz0))
    have f0 := hb1.frozen 0
    have f1 := hb1.frozen 1
    have f2 := hb1.frozen 2
    have f3 := hb1.frozen 3
    have d0 : w1.cell? ⟨w.heap.size, 0, none⟩ = some (.string ⟨#[]⟩) := by rw [hb1.cell]; rfl
    have d1 : w1.cell? ⟨w.heap.size, 1, none⟩ = some (.int .i64 0) := by rw [hb1.cell]; rfl
    have d2 : w1.cell? ⟨w.heap.size, 2, none⟩ = some (.string ⟨#[]⟩) := by rw [hb1.cell]; rfl
    have d3 : w1.cell? ⟨w.heap.size, 3, none⟩ = some (.string ⟨#[]⟩) := by rw [hb1.cell]; rfl
    clear hb hb1
    go_wp2
    exact bodyPost_ret (v := .tuple #[.agg #[.string ⟨#[]⟩, .int .i64 0, .string ⟨#[]⟩, .string ⟨#[]⟩], .int .i64 1]) (by simp [results, Tryz.results39, go_sem, d0, d1, d2, d3] <;> rfl) rfl ⟨by rw [hE.out]; rfl, low4 HL.out (Nat.le_refl _) _ _ _ _⟩
  | true =>
    have HK := Lib.hid (id hm)
    rw [hm, Bool.true_and] at hE
    clear hm
    by_cases h1k : 1 ≤ k.size
    · by_cases h2k : k.size ≤ 128
      · have hik : isKey k = true := by unfold isKey; simp [h1k, h2k]
        rw [hik, if_pos rfl] at hE
        have HIK := Lib.hid hik
        clear hik
        generalize hgk : get xs k = gk at *
        obtain ⟨gn, gb, gv⟩ := gk
        have HGK := Lib.hid hgk
        clear hgk
        generalize hnx : Rg.next ⟨gn, gb, gv⟩ s t = nx at *
        have HNX := Lib.hid hnx
        clear hnx
        obtain ⟨⟨rn, rb, rv⟩, c⟩ := nx
        simp only at hE
        go_enter Tryz.func39, Tryz.ntmps39
        go_wp2_with fail
        generalize w.alloc (.cells #[.string ⟨#[]⟩, .int .i64 0, .string ⟨#[]⟩, .string ⟨#[]⟩] 38) = w0 at *
        refine (rmayL_any _ A ca xs (by omega) H1.out HS.out).mono ?_
        rw [HK.out]
        rintro e w1 ⟨rfl, hb⟩
        have hb1 := HB0.out.below hb HB0.out.lt
        have HL := Lib.hid (hl0.out.trans (hb.mono hgz0))
        have H2 := Lib.hid (H1.out.more_below hb)
        have HB1 := Lib.hid hb1
        clear hb hb1
        go_wp2_with fail
        refine (rget_any _ A ca xs k (by omega) H2.out).mono ?_
        rw [HGK.out]
        rintro e w2 ⟨rfl, hb⟩
        have hb2 := HB1.out.below hb HB1.out.lt
        have HL2 := Lib.hid (HL.out.trans (hb.mono HL.out.size))
        have HB2 := Lib.hid hb2
        clear hb hb2
        go_wp2_with fail
        refine (rnext_any ⟨gn, gb, gv⟩ s t _ HGS.out.1 HGS.out.2 S1.out S3.out).mono ?_
        rw [HNX.out]
        rintro e w3 ⟨rfl, hb⟩
        have hb3 := HB2.out.below hb HB2.out.lt
        have HL3 := Lib.hid (HL2.out.trans (hb.mono HL2.out.size))
        have HB3 := Lib.hid hb3
        have hgl := HB3.out.lt
        clear hb hb3

        have f0 := HB3.out.frozen 0
        have f1 := HB3.out.frozen 1
        have f2 := HB3.out.frozen 2
        have f3 := HB3.out.frozen 3
        have d0 : w3.cell? ⟨w.heap.size, 0, none⟩ = some (.string ⟨#[]⟩) := by rw [HB3.out.cell]; rfl
        have d1 : w3.cell? ⟨w.heap.size, 1, none⟩ = some (.int .i64 0) := by rw [HB3.out.cell]; rfl
        have d2 : w3.cell? ⟨w.heap.size, 2, none⟩ = some (.string ⟨#[]⟩) := by rw [HB3.out.cell]; rfl
        have d3 : w3.cell? ⟨w.heap.size, 3, none⟩ = some (.string ⟨#[]⟩) := by rw [HB3.out.cell]; rfl
        have hne : ¬ (w3.heap.size = w.heap.size) := by omega
        by_cases hc : c = 0
        · subst hc
          rw [if_pos rfl] at hE
          have h4 := Lib.hid ((set4 (x := .string k) (y := .int .i64 rn) (z := .string rb) (u := .string rv) HB3.out).alloc (.cells #[.int .i64 rn, .string rb, .string rv] 36))
          have hlf := Lib.hid ((low4 HL3.out (Nat.le_refl _) (.string k) (.int .i64 rn) (.string rb) (.string rv)).alloc (by simp; omega) (.cells #[.int .i64 rn, .string rb, .string rv] 36))
          clear HB0 HB1 HB2
          go_wp2
          exact bodyPost_ret (v := .tuple #[.agg #[.string k, .int .i64 rn, .string rb, .string rv], .int .i64 0]) (by have r0 := h4.out.cell 0; have r1 := h4.out.cell 1; have r2 := h4.out.cell 2; have r3 := h4.out.cell 3; simp [results, Tryz.results39, go_sem, r0, r1, r2, r3]) rfl ⟨by rw [hE.out], hlf.out⟩
        · rw [if_neg hc] at hE
          have hc2 : (c != 0) = true := by rw [bne_iff_ne]; exact hc
          have h4 := Lib.hid ((set4 (x := .string ⟨#[]⟩) (y := .int .i64 0) (z := .string ⟨#[]⟩) (u := .string ⟨#[]⟩) HB3.out).alloc (.cells #[.int .i64 rn, .string rb, .string rv] 36))
          have hlf := Lib.hid ((low4 HL3.out (Nat.le_refl _) (.string ⟨#[]⟩) (.int .i64 0) (.string ⟨#[]⟩) (.string ⟨#[]⟩)).alloc (by simp; omega) (.cells #[.int .i64 rn, .string rb, .string rv] 36))
          clear HB0 HB1 HB2
          go_wp2
          exact bodyPost_ret (v := .tuple #[.agg #[.string ⟨#[]⟩, .int .i64 0, .string ⟨#[]⟩, .string ⟨#[]⟩], .int .i64 c]) (by have r0 := h4.out.cell 0; have r1 := h4.out.cell 1; have r2 := h4.out.cell 2; have r3 := h4.out.cell 3; simp [results, Tryz.results39, go_sem, r0, r1, r2, r3] <;> rfl) rfl ⟨by rw [hE.out]; rfl, hlf.out⟩
      · have hik : isKey k = false := by unfold isKey; simp [h2k]
        rw [hik, if_neg (by simp)] at hE
        have HIK := Lib.hid hik
        clear hik
        go_enter Tryz.func39, Tryz.ntmps39
        go_wp2_with fail
        generalize w.alloc (.cells #[.string ⟨#[]⟩, .int .i64 0, .string ⟨#[]⟩, .string ⟨#[]⟩] 38) = w0 at *
        refine (rmayL_any _ A ca xs (by omega) H1.out HS.out).mono ?_
        rw [HK.out]
        rintro e w1 ⟨rfl, hb⟩
        have hb1 := HB0.out.below hb HB0.out.lt
        have HL := Lib.hid (hl0.out.trans (hb.mono hgz0))
        have H2 := Lib.hid (H1.out.more_below hb)
        have HB1 := Lib.hid hb1

        have f0 := HB1.out.frozen 0
        have f1 := HB1.out.frozen 1
        have f2 := HB1.out.frozen 2
        have f3 := HB1.out.frozen 3
        have d0 : w1.cell? ⟨w.heap.size, 0, none⟩ = some (.string ⟨#[]⟩) := by rw [HB1.out.cell]; rfl
        have d1 : w1.cell? ⟨w.heap.size, 1, none⟩ = some (.int .i64 0) := by rw [HB1.out.cell]; rfl
        have d2 : w1.cell? ⟨w.heap.size, 2, none⟩ = some (.string ⟨#[]⟩) := by rw [HB1.out.cell]; rfl
        have d3 : w1.cell? ⟨w.heap.size, 3, none⟩ = some (.string ⟨#[]⟩) := by rw [HB1.out.cell]; rfl
        clear hb hb1
        go_wp2
        exact bodyPost_ret (v := .tuple #[.agg #[.string ⟨#[]⟩, .int .i64 0, .string ⟨#[]⟩, .string ⟨#[]⟩], .int .i64 1]) (by simp [results, Tryz.results39, go_sem, d0, d1, d2, d3] <;> rfl) rfl ⟨by rw [hE.out]; rfl, low4 HL.out (Nat.le_refl _) _ _ _ _⟩
    · have hik : isKey k = false := by unfold isKey; simp [h1k]
      rw [hik, if_neg (by simp)] at hE
      have HIK := Lib.hid hik
      clear hik
      go_enter Tryz.func39, Tryz.ntmps39
      go_wp2_with fail
      generalize w.alloc (.cells #[.string ⟨#[]⟩, .int .i64 0, .string ⟨#[]⟩, .string ⟨#[]⟩] 38) = w0 at *
      refine (rmayL_any _ A ca xs (by omega) H1.out HS.out).mono ?_
      rw [HK.out]
      rintro e w1 ⟨rfl, hb⟩
      have hb1 := HB0.out.below hb HB0.out.lt
      have HL := Lib.hid (hl0.out.trans (hb.mono hgz0))
      have H2 := Lib.hid (H1.out.more_below hb)
      have HB1 := Lib.hid hb1

      have f0 := HB1.out.frozen 0
      have f1 := HB1.out.frozen 1
      have f2 := HB1.out.frozen 2
      have f3 := HB1.out.frozen 3
      have d0 : w1.cell? ⟨w.heap.size, 0, none⟩ = some (.string ⟨#[]⟩) := by rw [HB1.out.cell]; rfl
      have d1 : w1.cell? ⟨w.heap.size, 1, none⟩ = some (.int .i64 0) := by rw [HB1.out.cell]; rfl
      have d2 : w1.cell? ⟨w.heap.size, 2, none⟩ = some (.string ⟨#[]⟩) := by rw [HB1.out.cell]; rfl
      have d3 : w1.cell? ⟨w.heap.size, 3, none⟩ = some (.string ⟨#[]⟩) := by rw [HB1.out.cell]; rfl
      clear hb hb1
      go_wp2
      exact bodyPost_ret (v := .tuple #[.agg #[.string ⟨#[]⟩, .int .i64 0, .string ⟨#[]⟩, .string ⟨#[]⟩], .int .i64 1]) (by simp [results, Tryz.results39, go_sem, d0, d1, d2, d3] <;> rfl) rfl ⟨by rw [hE.out]; rfl, low4 HL.out (Nat.le_refl _) _ _ _ _⟩
end Go.Proofs.YtjbompimlopdiaaGreatDoor.rgy
