/- FrameFinds: with up to 32 bits that follow one another changed, those ahead of it alone are scanned. -/
import Derived.Test.YtgojeoebflpglaaFrD
import Derived.Test.YtgojeoebflpglaaFrO
import Derived.Laws.IdiomStrings
import Derived.WalkSpells
namespace Go.Proofs.Ytgojeoebflpglaa.fr
set_option linter.unusedSimpArgs false
set_option linter.unusedVariables false
open Go.ChangeShapes Go.WideShapes Go.ChangeAt Go.RowKit Go.Proofs.Aid
open Go.Proofs.Ytgojeoebflpglaa.oc Go.Proofs.CrcMath
open Go.Proofs.Ytgojeoebflpglaa.texts (tc)
def RowAt (w : World) (B : Nat) (l : List UInt8) : Prop := (∀ j (h : j < l.length), w.cell? ⟨B, j, none⟩ = some (.int .u8 (l[j].toNat : Int))) ∧ ∀ j, j < l.length → w.frozen? ⟨B, j, none⟩ = false
theorem rowAt_new (w : World) (s : ByteArray) (cap : Nat) : RowAt (w.alloc (.cells (bytesRow s cap) 5 ((bytesRow s cap).size, (bytesRow s cap).size + 1))).drew w.heap.size s.data.toList := by
  constructor
  · intro j hj
    have hj' : j < s.data.size := by simpa using hj
    have := World.cell?_alloc_mark w (bytesRow s cap) 5 ((bytesRow s cap).size, (bytesRow s cap).size + 1) j
    rw [bytesRow_at s cap j hj'] at this
    simpa using this
  · intro j hj
    have := World.frozen?_alloc_mark w (bytesRow s cap) 5 (bytesRow s cap).size ((bytesRow s cap).size + 1) j
    have hs : (bytesRow s cap).size = s.data.size + (cap - s.size) := by simp [bytesRow]
    have hd : decide ((bytesRow s cap).size ≤ j) = false := by
      have hj' : j < s.data.size := by simpa using hj
      have hz : s.data.size = s.size := rfl
      rw [hs]; simp; omega
    rw [hd] at this
    simpa using this
theorem rowAt_set {w : World} {B : Nat} {l : List UInt8} (h : RowAt w B l) (i : Nat) (hi : i < l.length) (c : UInt8) :
    RowAt (w.setCell ⟨B, i, none⟩ (.int .u8 (c.toNat : Int))).drew B (l.set i c) := by
  constructor
  · intro j hj
    have hj' : j < l.length := by simpa using hj
    show (w.setCell _ _).cell? _ = _
    by_cases e : i = j
    · subst e
      rw [World.cell?_setCell_same _ _ _ (h.1 i hi)]; simp
    · rw [World.cell?_setCell_other _ _ _ _ (by intro hh; injection hh; omega), h.1 j hj', List.getElem_set_ne e]
  · intro j hj
    have hj' : j < l.length := by simpa using hj
    show (w.setCell _ _).frozen? _ = _
    rw [World.frozen?_setCell]; exact h.2 j hj'
theorem xor_cell (x : UInt8) (u : Int) (i : Nat) (n : Int) (h0 : 0 ≤ u) (hn : n = (u / (2 ^ (8 * i) : Nat) % 256)) : bits BinOp.xor IntKind.u8 (x.toNat : Int) n = ((x ^^^ dbyte u i).toNat : Int) := by
  subst hn
  have e : u / ((2 ^ (8 * i) : Nat) : Int) % 256 = ((dbyte u i).toNat : Int) := by
    rw [dbyte_toNat]
    obtain ⟨m, rfl⟩ := Int.eq_ofNat_of_zero_le h0
    simp
  rw [e, u8_xor_nat _ _ x.toNat_lt (dbyte u i).toNat_lt, UInt8.toNat_xor]
theorem next_cell {w : World} {B : Nat} {l : List UInt8} {k : Nat} {u : Int} {i : Nat} (h : RowAt w B (lst l k u i)) (hi : k + i < (lst l k u i).length) {x : UInt8} (hx : (lst l k u i)[k + i] = x) (h0 : 0 ≤ u) {n : Int} (hn : n = (u / (2 ^ (8 * i) : Nat) % 256)) :
    RowAt (w.setCell ⟨B, k + i, none⟩ (.int .u8 (bits BinOp.xor IntKind.u8 (x.toNat : Int) n))).drew B (lst l k u (i + 1)) := by
  rw [xor_cell x u i n h0 hn]
  have := rowAt_set h (k + i) hi (x ^^^ dbyte u i)
  have e : lst l k u (i + 1) = (lst l k u i).set (k + i) (x ^^^ dbyte u i) := by
    show (lst l k u i).set (k + i) ((lst l k u i).getD (k + i) 0 ^^^ dbyte u i) = _
    simp [List.getD, List.getElem?_eq_getElem hi, hx]
  rw [e]; exact this
set_option maxRecDepth 100000 in
set_option maxHeartbeats 8000000 in
theorem finds_walk (W : World) (A : Option Addr) (ca : Nat) (l : List ByteArray) (t0 t1 u : Int) (ht0 : 0 ≤ t0 ∧ t0 ≤ 65535) (ht1 : 0 ≤ t1 ∧ t1 ≤ 65535) (hu0 : 0 ≤ u) (hu1 : u ≤ 4294967295) (hca : l.length ≤ ca) (hl : l.length ≤ maxLen) (h1 : Reads W W.heap.size 1 A l.length (l.flatMap tc)) (hz : ∀ t ∈ l, t.size ≤ maxLen) :
    Calls Try.prog 5 #[.slice A l.length ca, .agg #[.int .u16 t0, .int .u16 t1], .int .u32 u] W fun e w' => e = .returned (.bool true) ∧ Below W.heap.size W w' := by
  have HL := Lib.hid (below_lit W (.cells #[.int .u16 t0, .int .u16 t1] 33))
  have HX := Lib.hid (Blk.new W 33 #[.int .u16 t0, .int .u16 t1])
  have H1 := Lib.hid (h1.more_below HL.out)
  have HF := Lib.hid (qfew_any _ A ca l hl H1.out hz)
  clear h1 hz hl
  go_enter Try.func5, Try.ntmps5
  go_wp2_with fail
  refine HF.out.mono ?_
  generalize hW1 : W.alloc (.cells #[.int .u16 t0, .int .u16 t1] 33) = W1 at *
  clear hW1
  rintro e w0 ⟨b1, rfl, rfl, hb⟩
  cases b1 with
  | false =>
    clear hb
    go_wp2_with fail
    refine (awake_any _).mono ?_; rintro e w9 ⟨rfl, hb⟩; have HL9 := Lib.hid (HL.out.trans (hb.mono HL.out.size)); clear hb; go_wp2; go_ret; exact ⟨rfl, HL9.out⟩
  | true =>
    obtain ⟨hl20, hz0⟩ := hb rfl
    have HZ := Lib.hid (few_z hz0)
    have HZ0 := Lib.hid hz0
    have hfs := frs_small hl20 hz0
    clear hb hz0 HF
    by_cases hl0 : l.length = 0
    · go_wp2_with fail
      refine (awake_any _).mono ?_; rintro e w9 ⟨rfl, hb⟩; have HL9 := Lib.hid (HL.out.trans (hb.mono HL.out.size)); clear hb; go_wp2; go_ret; exact ⟨rfl, HL9.out⟩
    by_cases huz : u = 0
    · subst huz
      go_wp2_with fail
      refine (awake_any _).mono ?_; rintro e w9 ⟨rfl, hb⟩; have HL9 := Lib.hid (HL.out.trans (hb.mono HL.out.size)); clear hb; go_wp2; go_ret; exact ⟨rfl, HL9.out⟩
    have huq : (u == 0) = false := by simpa using huz
    have hm0 : 0 ≤ t0 % (l.length : Int) := Int.emod_nonneg _ (by omega)
    have hm1 : t0 % (l.length : Int) < l.length := Int.emod_lt_of_pos _ (by omega)
    obtain ⟨k, hk⟩ : ∃ k : Nat, t0 % (l.length : Int) = k := ⟨(t0 % (l.length : Int)).toNat, by omega⟩
    have hkl : k < l.length := by omega
    have hxz := HZ0.out l[k] (List.getElem_mem hkl)
    have hn0 : 0 ≤ t1 % ((l[k].size : Int) + 1) := Int.emod_nonneg _ (by omega)
    have hn1 : t1 % ((l[k].size : Int) + 1) < (l[k].size : Int) + 1 := Int.emod_lt_of_pos _ (by omega)
    obtain ⟨r, hr⟩ : ∃ r : Nat, t1 % ((l[k].size : Int) + 1) = r := ⟨(t1 % ((l[k].size : Int) + 1)).toNat, by omega⟩
    have hrl : r ≤ l[k].size := by omega
    have HLN : Hid ((l.take k).length = k) := by unfold Hid; rw [List.length_take]; omega
    have hfsz := frs_mono l (k + 1)
    rw [frs_take l k hkl, List.length_append, frB_len] at hfsz
    have HFS : Hid (r = 0 ∨ 4 ≤ r → scanS (bz (lst (frsB l) ((frsB (l.take k)).length + (4 + r)) u 4)) = (l.take k, (frsB (l.take k)).length)) := fun h => finds_scan l HZ.out k hkl r h hrl u hu0 hu1 huz
    have HSz : Hid ((bz (frsB l)).size = (frsB l).length) := bz_size _
    have HSz2 : Hid ((bz (frsB (l.take k))).size = (frsB (l.take k)).length) := bz_size _
    have HA1 := Lib.hid (fun w h => all_any A ca l w (by omega) HZ.out h)
    have hA2 := fun w h => all_any A ca (l.take k) w (by rw [List.length_take]; omega) (fun s hs => HZ.out s (List.mem_of_mem_take hs)) h
    have hR2 := fun w (h : Reads w w.heap.size 1 A l.length (l.flatMap tc)) => Reads.take (xs := l) (f := tc) (size := 1) (k := k) (fun _ => rfl) h (by omega)
    have HSD : Hid ((bz (frsB l)).data.toList = frsB l) := bz_data2 _
    have HSl := Lib.hid (fun (i : Nat) => lst_length (frsB l) ((frsB (l.take k)).length + (4 + r)) u i)
    obtain ⟨ad, eA, hadb, hc0⟩ := H1.out.elem1 hkl
    subst eA
    have HC0 := Lib.hid hc0
    have HPRE : Hid (∀ i (h1 : i < (l.take k).length) (h2 : i < l.length), (l.take k)[i] = l[i]) := fun i h1 h2 => by rw [List.getElem_take]
    generalize hLk : l.take k = L2 at *
    have hL2 : L2.length ≤ 20 := by have := HLN.out; omega
    have HA2 := Lib.hid hA2
    have HR2 := Lib.hid hR2
    generalize l[k] = x at *
    generalize frsB l = fl at *
    generalize hn2 : (frsB L2).length = n2 at *
    have HK := Lib.hid hk
    have HRr := Lib.hid hr
    clear hm0 hm1 hn0 hn1 hA2 hR2 hLk hn2 hk hr hc0
    generalize hS : bz fl = S at *
    generalize hS2 : bz (frsB L2) = S2 at *
    clear hS hS2
    have HLW := HL
    clear HL
    have HL := Lib.hid (Below.refl w0.heap.size w0)
    have cx := HX.out.cell 0
    simp at cx
    have hk2 := HK.out
    have hgx : W.heap.size < w0.heap.size := HX.out.lt
    have hA2 := HA2.out
    rw [HLN.out] at hA2
    have HA3 := Lib.hid hA2
    have hR2 := HR2.out
    rw [HLN.out] at hR2
    have HR3 := Lib.hid hR2
    clear hA2 hR2
    go_wp2_with fail
    refine (HA1.out _ H1.out).mono ?_
    rintro e w1 ⟨rfl, hb⟩
    replace HL := Lib.hid (HL.out.trans (hb.mono HL.out.size)); clear hb
    have hle : n2 + (8 + x.size) ≤ S.size := by have := HSz.out; omega
    have hsm : S.size ≤ 30000 := by have := HSz.out; omega
    have HFL : Hid (fl.length = S.size) := HSz.out.symm
    clear hfs hfsz
    go_wp2_with fail
    refine (HA3.out _ (HR3.out _ (H1.out.more_below HL.out))).mono ?_
    rintro e w2 ⟨rfl, hb⟩
    replace HL := Lib.hid (HL.out.trans (hb.mono HL.out.size)); clear hb
    have hsz2 := HSz2.out
    have cc : w2.cell? (ad.add k) = some (.string x) := (HL.out.cell (by rw [block_of_add]; exact hadb)).trans HC0.out
    have cy : w2.cell? ⟨W.heap.size, 1, none⟩ = some (.int .u16 t1) := by rw [HL.out.cell (p := ⟨W.heap.size, 1, none⟩) hgx, HX.out.cell]; rfl
    have hcv := fun w => run_bytes_of_string (P := Try.prog) w 9 35 5 S Try.underlying9 Try.underlying35 Try.underlying5
    clear cx
    have hr2 : t1 % (4 + (x.size : Int) - 3) = r := by rw [← HRr.out]; congr 1; omega
    go_wp2_with fail
    clear hcv hr2 hsz2 cc cy
    generalize hcap : grownCap w2 S.size 0 5 = cap
    have hrow : RowAt (w2.alloc (.cells (bytesRow S cap) 5 ((bytesRow S cap).size, (bytesRow S cap).size + 1))).drew w2.heap.size S.data.toList := rowAt_new w2 S cap
    have hbel : Below w2.heap.size w2 (w2.alloc (.cells (bytesRow S cap) 5 ((bytesRow S cap).size, (bytesRow S cap).size + 1))).drew := ((Below.refl _ _).alloc (Nat.le_refl _) _).drew
    clear hcap
    generalize (w2.alloc (.cells (bytesRow S cap) 5 ((bytesRow S cap).size, (bytesRow S cap).size + 1))).drew = W3 at *
    generalize hB : w2.heap.size = B at *
    have HB := Lib.hid hB
    clear hB
    rw [HSD.out] at hrow
    obtain ⟨wh, hwh⟩ : ∃ wh : Nat, wh = n2 + (4 + r) := ⟨_, rfl⟩
    have hwi : ((n2 : Int) + 4 + (r : Int)) = (wh : Int) := by omega
    rw [hwi]
    rw [← hwh] at HFS HSl
    have hwle : wh + 4 ≤ S.size := by omega
    have HWI := Lib.hid hwi
    have HWH := Lib.hid hwh
    clear hwi hwh
    go_loopw [13] (fun iv wr => ∃ i : Nat, i ≤ 4 ∧ iv = .int .i64 i ∧ RowAt wr B (lst fl wh u i) ∧ Below B w2 wr) (fun iv _ => 4 - (intOf iv).toNat)
    case atStart => exact ⟨0, by omega, rfl, hrow, hbel⟩
    case round =>
      clear hrow hbel
      obtain ⟨i, hi, rfl, hrow, hbel⟩ := hrel
      by_cases hlt : i < 4
      · have hki : wh + i < (lst fl wh u i).length := by rw [HSl.out, HFL.out]; omega
        have hc := hrow.1 (wh + i) hki
        have hf := hrow.2 (wh + i) hki
        have HR := Lib.hid hrow
        have HLi := Lib.hid hki
        generalize hx : (lst fl wh u i)[wh + i] = xb at hc
        have HXb := Lib.hid hx
        clear hx hrow hki
        have hi4 : i = 0 ∨ i = 1 ∨ i = 2 ∨ i = 3 := by omega
        rcases hi4 with rfl | rfl | rfl | rfl
        · simp only [Nat.add_zero] at hc hf
          go_wp2
          go_region
          go_wp2
          go_roundw
          case rel => exact ⟨1, by omega, rfl, next_cell (i := 0) HR.out HLi.out HXb.out hu0 (by simp), (hbel.setCell (Nat.le_refl _) _).drew⟩
          case measure => simp [intOf]
        · go_wp2
          go_region
          go_wp2
          go_roundw
          case rel => exact ⟨2, by omega, rfl, next_cell (i := 1) HR.out HLi.out HXb.out hu0 (by simp), (hbel.setCell (Nat.le_refl _) _).drew⟩
          case measure => simp [intOf]
        · go_wp2
          go_region
          go_wp2
          go_roundw
          case rel => exact ⟨3, by omega, rfl, next_cell (i := 2) HR.out HLi.out HXb.out hu0 (by simp), (hbel.setCell (Nat.le_refl _) _).drew⟩
          case measure => simp [intOf]
        · go_wp2
          go_region
          go_wp2
          go_roundw
          case rel => exact ⟨4, by omega, rfl, next_cell (i := 3) HR.out HLi.out HXb.out hu0 (by simp; omega), (hbel.setCell (Nat.le_refl _) _).drew⟩
          case measure => simp [intOf]
      · obtain rfl : i = 4 := by omega
        have hback := run_convert_bytes_back (P := Try.prog) wr 35 9 5 ⟨B, 0, none⟩ cap (lst fl wh u 4) Try.underlying35 Try.underlying5 Try.underlying9 (fun j hj => by
          have := hrow.1 j hj
          unfold Addr.add; split <;> simp_all)
        rw [HSl.out, HFL.out] at hback
        replace HL := Lib.hid (HL.out.trans (hbel.mono (by rw [← HB.out]; exact HL.out.size)))
        clear hrow hbel
        have hwe := HWH.out
        by_cases hmid : r = 0 ∨ 4 ≤ r
        · have hsc := HFS.out hmid
          have hXe : (⟨(lst fl wh u 4).toArray⟩ : ByteArray) = bz (lst fl wh u 4) := rfl
          have hXz : (bz (lst fl wh u 4)).size ≤ 30000 := by rw [bz_size, HSl.out, HFL.out]; exact hsm
          rw [hXe] at hback
          have HSC := Lib.hid hsc
          have HS := Lib.hid (fun w => scan_any (bz (lst fl wh u 4)) w (by omega))
          have hkk := HLN.out
          clear hsc hXe HFS
          generalize bz (lst fl wh u 4) = X at *
          have fin : Hid (∀ (w : World) (A1 : Option Addr) (c1 : Nat), Below w0.heap.size w0 w → Reads w w.heap.size 1 A1 L2.length (L2.flatMap tc) → Calls Try.prog 14 #[.slice A1 L2.length c1, .slice (some ad) k ca] w fun e w' => e = .returned (.bool true) ∧ Below w.heap.size w w') := fun w A1 c1 hb hR => by
            have h2 := HR2.out w (H1.out.more_below hb)
            have := texts.sameTexts_same w A1 (some ad) c1 ca L2 (by omega) hR h2
            rw [hkk] at this ⊢
            exact this
          have hcond : (wh < n2 + 8 ∧ wh + 4 ≤ n2 + 8) ∨ n2 + 8 ≤ wh := by omega
          clear hwe hkk
          rcases hcond with ⟨q1, q2⟩ | q1
          all_goals
            go_wp2_with fail
            refine (HS.out _).mono ?_
            rintro e w6 hsp
            obtain ⟨A1, c1, rfl, hR, hb⟩ := hsp.reads HSC.out
            replace HL := Lib.hid (HL.out.trans (hb.mono HL.out.size)); clear hb
            have HQ := Lib.hid (fin.out w6 A1 c1 HL.out hR)
            clear hsp hR
            go_wp2_with fail
            refine HQ.out.mono ?_
            rintro e w7 ⟨rfl, hb⟩
            replace HL := Lib.hid (HL.out.trans (hb.mono HL.out.size)); clear hb
            replace HL := Lib.hid (HLW.out.trans (HL.out.mono HLW.out.size))
            go_wp2_with fail
            refine (awake_any _).mono ?_; rintro e w9 ⟨rfl, hb⟩; have HL9 := Lib.hid (HL.out.trans (hb.mono HL.out.size)); clear hb; go_wp2; go_ret; exact ⟨rfl, HL9.out⟩
        · have q1 : wh < n2 + 8 := by omega
          have q2 : n2 + 8 < wh + 4 := by omega
          replace HL := Lib.hid (HLW.out.trans (HL.out.mono HLW.out.size))
          clear hwe
          go_wp2_with fail
          refine (awake_any _).mono ?_; rintro e w9 ⟨rfl, hb⟩; have HL9 := Lib.hid (HL.out.trans (hb.mono HL.out.size)); clear hb; go_wp2; go_ret; exact ⟨rfl, HL9.out⟩
end Go.Proofs.Ytgojeoebflpglaa.fr
