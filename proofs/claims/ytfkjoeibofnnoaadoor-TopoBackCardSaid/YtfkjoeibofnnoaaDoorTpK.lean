/- TopoTells: the members of any entries, and what any register tells. TopoSets: which of any members are up, their racks and zones. -/
import Derived.Test.YtfkjoeibofnnoaaDoorTpI
import Derived.Test.YtfkjoeibofnnoaaDoorTpJ
namespace Go.Proofs.YtfkjoeibofnnoaaDoor.tp
set_option linter.unusedSimpArgs false
open Go.ChangeShapes Go.WideShapes Go.ChangeAt Go.RowKit Go.Proofs.Aid
open Go.Proofs.YtfkjoeibofnnoaaDoor.nm (Lets)
open Go.Proofs.YtfkjoeibofnnoaaDoor.texts (tc)
open Go.Proofs.YtfkjoeibofnnoaaDoor.rgy (En)
def toE (r : R46) : En := ⟨r.key_, ⟨r.regN, r.regBy, r.regValue⟩⟩
theorem ents {w : World} {v : Value} (h : V22 w v) : ∃ (A : Option Addr) (c : Nat) (xs : List En), v = .slice A xs.length c ∧ xs.length ≤ c ∧ c ≤ maxLen ∧ Reads w w.heap.size 4 A xs.length (xs.flatMap En.cells) ∧ ∀ r ∈ xs, r.sz := by
  obtain ⟨A, n, cap, rs, rfl, h1, h2, rfl, hr, hok⟩ := s22 h
  refine ⟨A, cap, rs.map toE, by rw [List.length_map], by rw [List.length_map]; exact h1, h2, ?_, ?_⟩
  · rw [List.length_map, List.flatMap_map]; exact hr
  · intro x hx
    obtain ⟨r, hr, rfl⟩ := List.mem_map.1 hx
    exact ⟨(hok r hr).1, (hok r hr).2.2.1, (hok r hr).2.2.2⟩
def toM (r : R26) : Mb := ⟨r.name, r.rack, r.zone, r.up⟩
theorem mbs {w : World} {v : Value} (h : V30 w v) : ∃ (A : Option Addr) (c : Nat) (xs : List Mb), v = .slice A xs.length c ∧ xs.length ≤ c ∧ c ≤ maxLen ∧ Reads w w.heap.size 4 A xs.length (xs.flatMap Mb.cells) ∧ ∀ r ∈ xs, r.sz := by
  obtain ⟨A, n, cap, rs, rfl, h1, h2, rfl, hr, hok⟩ := s30 h
  refine ⟨A, cap, rs.map toM, by rw [List.length_map], by rw [List.length_map]; exact h1, h2, ?_, ?_⟩
  · rw [List.length_map, List.flatMap_map]; exact hr
  · intro x hx
    obtain ⟨r, hr, rfl⟩ := List.mem_map.1 hx
    exact hok r hr
theorem short_of {xs : List En} (h : ∀ x ∈ xs, x.key.size ≤ 200 ∧ x.reg.few = true) : ∀ r ∈ xs, r.key.size ≤ 1000000 ∧ r.reg.value.size ≤ 1000000 := fun x hx => by
  have h2 := (h x hx).2
  unfold reg.Rg.few at h2
  rw [Bool.and_eq_true, decide_eq_true_eq, decide_eq_true_eq] at h2
  have h1 := (h x hx).1
  exact ⟨by omega, by omega⟩
theorem mems_len (xs : List En) : (mems xs).length ≤ xs.length := Nat.le_trans (List.length_filterMap_le _ _) (List.length_filter_le _ _)
set_option maxRecDepth 100000 in
set_option maxHeartbeats 8000000 in
theorem tells_walk (W : World) (A : Option Addr) (ca : Nat) (xs : List En) (t b : ByteArray) (HLt : Hid (Lets W)) (hl : xs.length ≤ maxLen) (h1 : Reads W W.heap.size 4 A xs.length (xs.flatMap En.cells)) (hz : ∀ r ∈ xs, r.sz) (ht : t.size ≤ maxLen) (hb : b.size ≤ maxLen) :
    Calls Tryd.prog 3 #[.slice A xs.length ca, .string t, .string b] W fun e w' => e = .returned (.bool true) ∧ Below W.heap.size W w' := by
  have HS := Lib.hid hz
  have HL1 := Lib.hid hl
  have HL := Lib.hid (Below.refl W.heap.size W)
  have H1 := Lib.hid h1
  unfold maxLen at ht hb
  clear h1 hz hl
  go_enter Tryd.func3, Tryd.ntmps3
  go_wp2_with fail
  refine (rgy.rfew_any W A ca xs 30 (by omega) HL1.out H1.out HS.out).mono ?_
  rintro e w1 ⟨b1, rfl, hb, hf1⟩
  replace H1 := Lib.hid ((Hid.out H1).more_below hb)
  replace HL := Lib.hid ((Hid.out HL).trans (hb.mono (Hid.out HL).size))
  clear hb
  cases b1 with
  | false =>
    clear hf1
    go_wp2_with fail
    refine (awake_any _ (Lib.hid (HLt.out.next HL.out))).mono ?_; rintro e w9 ⟨rfl, hb⟩; replace HL := Lib.hid (HL.out.trans (hb.mono HL.out.size)); clear hb; go_wp2; go_ret; exact ⟨rfl, HL.out⟩
  | true =>
    obtain ⟨hx30, hfe⟩ := hf1 rfl
    have hsh := Lib.hid (short_of hfe)
    clear hf1 hfe
    by_cases z0 : t.size ≤ 200
    case neg =>
      go_wp2_with fail
      refine (awake_any _ (Lib.hid (HLt.out.next HL.out))).mono ?_; rintro e w9 ⟨rfl, hb⟩; replace HL := Lib.hid (HL.out.trans (hb.mono HL.out.size)); clear hb; go_wp2; go_ret; exact ⟨rfl, HL.out⟩
    by_cases z1 : b.size ≤ 200
    case neg =>
      go_wp2_with fail
      refine (awake_any _ (Lib.hid (HLt.out.next HL.out))).mono ?_; rintro e w9 ⟨rfl, hb⟩; replace HL := Lib.hid (HL.out.trans (hb.mono HL.out.size)); clear hb; go_wp2; go_ret; exact ⟨rfl, HL.out⟩
    have HM1 := Lib.hid (fun w hL => member_any t b w (by omega) (by omega) hL)
    have HM2 := Lib.hid (fun w => rmember_any t b w (by omega) (by omega))
    have HO1 := Lib.hid (fun w h hL => members_any w A ca xs (by omega) h HS.out hsh.out hL)
    have HO2 := Lib.hid (fun w h => rmembers_any w A ca xs (by omega) h HS.out hsh.out)
    have HK1 := Lib.hid (fun w => key_any t w (by omega))
    have HK2 := Lib.hid (fun w => rkey_any t w (by omega))
    have hml := mems_len xs
    obtain ⟨mn, mr, mz, mu, o, hmr⟩ : ∃ mn mr mz mu o, memR t b = .returned (.tuple #[.agg #[.string mn, .string mr, .string mz, .bool mu], .bool o]) := ⟨_, _, _, _, _, rfl⟩
    rw [hmr] at HM1 HM2
    have heq := eqlM_same ⟨mn, mr, mz, mu⟩
    clear hmr hsh
    generalize keyS t = k at *
    generalize mems xs = ms at *
    go_wp2_with fail
    refine (HM1.out w1 (Lib.hid (HLt.out.next HL.out))).mono ?_
    rintro e w2 ⟨rfl, hb⟩
    replace H1 := Lib.hid ((Hid.out H1).more_below hb)
    replace HL := Lib.hid ((Hid.out HL).trans (hb.mono (Hid.out HL).size))
    clear hb
    have hb := below_lit w2 (.cells #[.string mn, .string mr, .string mz, .bool mu] 26)
    have HX := Lib.hid (Blk.new w2 26 #[.string mn, .string mr, .string mz, .bool mu])
    replace H1 := Lib.hid ((Hid.out H1).more_below hb)
    replace HL := Lib.hid ((Hid.out HL).trans (hb.mono (Hid.out HL).size))
    clear hb
    go_wp2_with fail
    generalize w2.alloc (.cells #[.string mn, .string mr, .string mz, .bool mu] 26) = w3 at *
    generalize w2.heap.size = gx at *
    refine (HM2.out w3).mono ?_
    rintro e w4 ⟨rfl, hb⟩
    replace HX := Lib.hid (Blk.below (Hid.out HX) hb (Hid.out HX).lt)
    replace H1 := Lib.hid ((Hid.out H1).more_below hb)
    replace HL := Lib.hid ((Hid.out HL).trans (hb.mono (Hid.out HL).size))
    clear hb
    have hb := below_lit w4 (.cells #[.string mn, .string mr, .string mz, .bool mu] 26)
    have HY := Lib.hid (Blk.new w4 26 #[.string mn, .string mr, .string mz, .bool mu])
    replace HX := Lib.hid (Blk.below (Hid.out HX) hb (Hid.out HX).lt)
    replace H1 := Lib.hid ((Hid.out H1).more_below hb)
    replace HL := Lib.hid ((Hid.out HL).trans (hb.mono (Hid.out HL).size))
    clear hb
    have x0 : (w4.alloc (.cells #[.string mn, .string mr, .string mz, .bool mu] 26)).cell? ⟨gx, 0, none⟩ = some (.string mn) := HX.out.cell 0
    have x1 : (w4.alloc (.cells #[.string mn, .string mr, .string mz, .bool mu] 26)).cell? ⟨gx, 1, none⟩ = some (.string mr) := HX.out.cell 1
    have x2 : (w4.alloc (.cells #[.string mn, .string mr, .string mz, .bool mu] 26)).cell? ⟨gx, 2, none⟩ = some (.string mz) := HX.out.cell 2
    have x3 : (w4.alloc (.cells #[.string mn, .string mr, .string mz, .bool mu] 26)).cell? ⟨gx, 3, none⟩ = some (.bool mu) := HX.out.cell 3
    have y0 : (w4.alloc (.cells #[.string mn, .string mr, .string mz, .bool mu] 26)).cell? ⟨w4.heap.size, 0, none⟩ = some (.string mn) := HY.out.cell 0
    have y1 : (w4.alloc (.cells #[.string mn, .string mr, .string mz, .bool mu] 26)).cell? ⟨w4.heap.size, 1, none⟩ = some (.string mr) := HY.out.cell 1
    have y2 : (w4.alloc (.cells #[.string mn, .string mr, .string mz, .bool mu] 26)).cell? ⟨w4.heap.size, 2, none⟩ = some (.string mz) := HY.out.cell 2
    have y3 : (w4.alloc (.cells #[.string mn, .string mr, .string mz, .bool mu] 26)).cell? ⟨w4.heap.size, 3, none⟩ = some (.bool mu) := HY.out.cell 3
    go_wp2_with fail
    clear x0 x1 x2 x3 y0 y1 y2 y3 HX HY
    generalize w4.alloc (.cells #[.string mn, .string mr, .string mz, .bool mu] 26) = w5 at *
    refine (HO1.out w5 H1.out (Lib.hid (HLt.out.next HL.out))).mono ?_
    rintro e w6 ⟨v6, rfl, hrow, hb⟩
    obtain ⟨A6, c6, rfl, hR6⟩ := hrow.reads
    have H6 := Lib.hid hR6
    clear hrow hR6
    replace H1 := Lib.hid ((Hid.out H1).more_below hb)
    replace HL := Lib.hid ((Hid.out HL).trans (hb.mono (Hid.out HL).size))
    clear hb
    go_wp2_with fail
    refine (HO2.out w6 H1.out).mono ?_
    rintro e w7 ⟨v7, rfl, hrow, hb⟩
    obtain ⟨A7, c7, rfl, hR7⟩ := hrow.reads
    have H7 := Lib.hid hR7
    clear hrow hR7
    replace H1 := Lib.hid ((Hid.out H1).more_below hb)
    replace H6 := Lib.hid ((Hid.out H6).more_below hb)
    replace HL := Lib.hid ((Hid.out HL).trans (hb.mono (Hid.out HL).size))
    clear hb
    go_wp2_with fail
    refine (rsame_any w7 A6 A7 c6 c7 ms ms (by omega) (by omega) H6.out H7.out).mono ?_
    rw [show decide (ms = ms) = true by simp]
    rintro e w8 ⟨rfl, hb⟩
    replace H1 := Lib.hid ((Hid.out H1).more_below hb)
    replace HL := Lib.hid ((Hid.out HL).trans (hb.mono (Hid.out HL).size))
    clear hb
    go_wp2_with fail
    refine (HK1.out w8).mono ?_
    rintro e w10 ⟨rfl, hb⟩
    replace H1 := Lib.hid ((Hid.out H1).more_below hb)
    replace HL := Lib.hid ((Hid.out HL).trans (hb.mono (Hid.out HL).size))
    clear hb
    go_wp2_with fail
    refine (HK2.out w10).mono ?_
    rintro e w11 ⟨rfl, hb⟩
    replace H1 := Lib.hid ((Hid.out H1).more_below hb)
    replace HL := Lib.hid ((Hid.out HL).trans (hb.mono (Hid.out HL).size))
    clear hb
    go_wp2_with fail
    refine (awake_any _ (Lib.hid (HLt.out.next HL.out))).mono ?_; rintro e w9 ⟨rfl, hb⟩; replace HL := Lib.hid (HL.out.trans (hb.mono HL.out.size)); clear hb; go_wp2; go_ret; exact ⟨rfl, HL.out⟩
theorem tells_all (W : World) (v0 : Value) (v1 : Value) (v2 : Value) (h0 : V22 W v0) (h1 : V9 W v1) (h2 : V9 W v2) (HLt : Hid (Lets W)) :
    Calls Tryd.prog 3 #[v0, v1, v2] W fun e w' => e = .returned (.bool true) ∧ Below W.heap.size W w' := by
  obtain ⟨A, ca, xs, rfl, a1, a2, hR, hz⟩ := ents h0
  obtain ⟨q, rfl, hq⟩ := h1
  obtain ⟨r, rfl, hr⟩ := h2
  exact tells_walk W A ca xs q.v r.v HLt (Nat.le_trans a1 a2) hR hz hq hr
theorem valR_form (r z : ByteArray) (u : Bool) : ∃ s e, valR r z u = .returned (.tuple #[.string s, .int .i64 e]) := by
  unfold valR
  split
  · exact ⟨_, _, rfl⟩
  · exact ⟨_, _, rfl⟩
theorem same_texts (w : World) (A B : Option Addr) (ca cb : Nat) (S : List (List UInt8)) (hl : S.length ≤ 1099511627776) (h1 : Reads w w.heap.size 1 A S.length ((strs S).flatMap tc)) (h2 : Reads w w.heap.size 1 B S.length ((strs S).flatMap tc)) :
    Calls Tryd.prog 20 #[.slice A S.length ca, .slice B S.length cb] w fun e w' => e = .returned (.bool true) ∧ Below w.heap.size w w' := by
  have h := texts.sameTexts_same w A B ca cb (strs S) (by rw [strs_length]; exact hl) (by rw [strs_length]; exact h1) (by rw [strs_length]; exact h2)
  rw [strs_length] at h
  exact h
theorem setT_len (xs : List Mb) (f : Mb → ByteArray) : (setT (xs.map f)).length ≤ xs.length := by
  rw [← setK_all]; exact setK_len (Nat.le_refl _)
set_option maxRecDepth 100000 in
set_option maxHeartbeats 8000000 in
theorem sets_walk (W : World) (A : Option Addr) (ca : Nat) (xs : List Mb) (mn mr mz : ByteArray) (mu : Bool) (HLt : Hid (Lets W)) (hl : xs.length ≤ maxLen) (h1 : Reads W W.heap.size 4 A xs.length (xs.flatMap Mb.cells)) (hz : ∀ r ∈ xs, r.sz) (hm : (Mb.mk mn mr mz mu).sz) :
    Calls Tryd.prog 4 #[.slice A xs.length ca, .agg #[.string mn, .string mr, .string mz, .bool mu]] W fun e w' => e = .returned (.bool true) ∧ Below W.heap.size W w' := by
  have HS := Lib.hid hz
  have HL1 := Lib.hid hl
  have HMZ := Lib.hid hm
  have HL := Lib.hid (below_lit W (.cells #[.string mn, .string mr, .string mz, .bool mu] 26))
  have HB := Lib.hid (Blk.new W 26 #[.string mn, .string mr, .string mz, .bool mu])
  have H1 := Lib.hid (h1.more_below HL.out)
  clear h1 hz hl hm
  go_enter Tryd.func4, Tryd.ntmps4
  go_wp2_with fail
  generalize W.alloc (.cells #[.string mn, .string mr, .string mz, .bool mu] 26) = w0 at *
  refine (rfew_any w0 A ca xs 40 (by omega) HL1.out H1.out HS.out).mono ?_
  rintro e w1 ⟨b1, rfl, hb, hf1⟩
  replace HB := Lib.hid (Blk.below (Hid.out HB) hb (Hid.out HB).lt)
  replace H1 := Lib.hid ((Hid.out H1).more_below hb)
  replace HL := Lib.hid ((Hid.out HL).trans (hb.mono (Hid.out HL).size))
  clear hb
  cases b1 with
  | false =>
    clear hf1
    go_wp2_with fail
    refine (awake_any _ (Lib.hid (HLt.out.next HL.out))).mono ?_; rintro e w9 ⟨rfl, hb⟩; replace HL := Lib.hid (HL.out.trans (hb.mono HL.out.size)); clear hb; go_wp2; go_ret; exact ⟨rfl, HL.out⟩
  | true =>
    have hx40 := (hf1 rfl).1
    clear hf1
    have b0 : w1.cell? ⟨W.heap.size, 0, none⟩ = some (.string mn) := HB.out.cell 0
    have b1 : w1.cell? ⟨W.heap.size, 1, none⟩ = some (.string mr) := HB.out.cell 1
    have b2 : w1.cell? ⟨W.heap.size, 2, none⟩ = some (.string mz) := HB.out.cell 2
    have b3 : w1.cell? ⟨W.heap.size, 3, none⟩ = some (.bool mu) := HB.out.cell 3
    have HR : Hid (Reads (w1.alloc (.cells #[.string mn, .string mr, .string mz, .bool mu] 26)) (w1.alloc (.cells #[.string mn, .string mr, .string mz, .bool mu] 26)).heap.size 4 (some ⟨w1.heap.size, 0, none⟩) [(⟨mn, mr, mz, mu⟩ : Mb)].length ([(⟨mn, mr, mz, mu⟩ : Mb)].flatMap Mb.cells)) := lit1 (f := Mb.cells) (size := 4) w1 26 [⟨mn, mr, mz, mu⟩] (fun _ => rfl)
    have hb := below_lit w1 (.cells #[.string mn, .string mr, .string mz, .bool mu] 26)
    replace HB := Lib.hid (Blk.below (Hid.out HB) hb (Hid.out HB).lt)
    replace H1 := Lib.hid ((Hid.out H1).more_below hb)
    replace HL := Lib.hid ((Hid.out HL).trans (hb.mono (Hid.out HL).size))
    clear hb
    go_wp2_with fail
    clear b0 b1 b2 b3
    generalize w1.alloc (.cells #[.string mn, .string mr, .string mz, .bool mu] 26) = w2 at *
    refine (rfew_any w2 (some ⟨w1.heap.size, 0, none⟩) 1 [⟨mn, mr, mz, mu⟩] 1 (by omega) (by simp [maxLen]) HR.out (fun r hr => by rw [List.mem_singleton.1 hr]; exact HMZ.out)).mono ?_
    rintro e w3 ⟨b2, rfl, hb, hf2⟩
    replace HB := Lib.hid (Blk.below (Hid.out HB) hb (Hid.out HB).lt)
    replace H1 := Lib.hid ((Hid.out H1).more_below hb)
    replace HL := Lib.hid ((Hid.out HL).trans (hb.mono (Hid.out HL).size))
    clear hb
    cases b2 with
    | false =>
      clear hf2
      go_wp2_with fail
      refine (awake_any _ (Lib.hid (HLt.out.next HL.out))).mono ?_; rintro e w9 ⟨rfl, hb⟩; replace HL := Lib.hid (HL.out.trans (hb.mono HL.out.size)); clear hb; go_wp2; go_ret; exact ⟨rfl, HL.out⟩
    | true =>
      obtain ⟨hm0, hm1, hm2⟩ : (Mb.mk mn mr mz mu).few := (hf2 rfl).2 _ (by simp)
      simp only at hm0 hm1 hm2
      clear hf2 HR
      have HV1 := Lib.hid (fun w => value_any mn mr mz mu w (by omega) (by omega))
      have HV2 := Lib.hid (fun w => rvalue_any mn mr mz mu w (by omega) (by omega))
      obtain ⟨s, er, hv⟩ := valR_form mr mz mu
      rw [hv] at HV1 HV2
      clear hv
      have hul : (xs.filter Mb.u).length ≤ xs.length := List.length_filter_le _ _
      have HU1 := Lib.hid (fun w h => up_any w A ca xs (by omega) h)
      have HU2 := Lib.hid (fun w h => rup_any w A ca xs (by omega) h)
      have HR1 := Lib.hid (fun w h => racks_any w A ca xs (by omega) h)
      have HR2 := Lib.hid (fun w h => rracks_any w A ca xs (by omega) h)
      have HZ1 := Lib.hid (fun w h => zones_any w A ca xs (by omega) h)
      have HZ2 := Lib.hid (fun w h => rzones_any w A ca xs (by omega) h)
      have hrl := setT_len xs Mb.r
      have hzl := setT_len xs Mb.z
      generalize xs.filter Mb.u = us at *
      generalize setT (xs.map Mb.r) = rs at *
      generalize setT (xs.map Mb.z) = zs at *
      have b0 : w3.cell? ⟨W.heap.size, 0, none⟩ = some (.string mn) := HB.out.cell 0
      have b1 : w3.cell? ⟨W.heap.size, 1, none⟩ = some (.string mr) := HB.out.cell 1
      have b2 : w3.cell? ⟨W.heap.size, 2, none⟩ = some (.string mz) := HB.out.cell 2
      have b3 : w3.cell? ⟨W.heap.size, 3, none⟩ = some (.bool mu) := HB.out.cell 3
      go_wp2_with fail
      clear b0 b1 b2 b3
      refine (HV1.out w3).mono ?_
      rintro e w4 ⟨rfl, hb⟩
      replace HB := Lib.hid (Blk.below (Hid.out HB) hb (Hid.out HB).lt)
      replace H1 := Lib.hid ((Hid.out H1).more_below hb)
      replace HL := Lib.hid ((Hid.out HL).trans (hb.mono (Hid.out HL).size))
      clear hb
      have b0 : w4.cell? ⟨W.heap.size, 0, none⟩ = some (.string mn) := HB.out.cell 0
      have b1 : w4.cell? ⟨W.heap.size, 1, none⟩ = some (.string mr) := HB.out.cell 1
      have b2 : w4.cell? ⟨W.heap.size, 2, none⟩ = some (.string mz) := HB.out.cell 2
      have b3 : w4.cell? ⟨W.heap.size, 3, none⟩ = some (.bool mu) := HB.out.cell 3
      go_wp2_with fail
      clear b0 b1 b2 b3
      refine (HV2.out w4).mono ?_
      rintro e w5 ⟨rfl, hb⟩
      replace H1 := Lib.hid ((Hid.out H1).more_below hb)
      replace HL := Lib.hid ((Hid.out HL).trans (hb.mono (Hid.out HL).size))
      clear hb
      clear HB
      go_wp2_with fail
      refine (HU1.out w5 H1.out).mono ?_
      rintro e w6 ⟨v6, rfl, hrow, hb⟩
      obtain ⟨A6, c6, rfl, hR6⟩ := hrow.reads
      have H6 := Lib.hid hR6
      clear hrow hR6
      replace H1 := Lib.hid ((Hid.out H1).more_below hb)
      replace HL := Lib.hid ((Hid.out HL).trans (hb.mono (Hid.out HL).size))
      clear hb
      go_wp2_with fail
      refine (HU2.out w6 H1.out).mono ?_
      rintro e w7 ⟨v7, rfl, hrow, hb⟩
      obtain ⟨A7, c7, rfl, hR7⟩ := hrow.reads
      have H7 := Lib.hid hR7
      clear hrow hR7
      replace H1 := Lib.hid ((Hid.out H1).more_below hb)
      replace H6 := Lib.hid ((Hid.out H6).more_below hb)
      replace HL := Lib.hid ((Hid.out HL).trans (hb.mono (Hid.out HL).size))
      clear hb
      go_wp2_with fail
      refine (rsame_any w7 A6 A7 c6 c7 us us (by omega) (by omega) H6.out H7.out).mono ?_
      rw [show decide (us = us) = true by simp]
      rintro e w8 ⟨rfl, hb⟩
      replace H1 := Lib.hid ((Hid.out H1).more_below hb)
      replace HL := Lib.hid ((Hid.out HL).trans (hb.mono (Hid.out HL).size))
      clear hb
      clear H6 H7
      go_wp2_with fail
      refine (HR1.out w8 H1.out).mono ?_
      rintro e w10 ⟨A10, c10, rfl, -, hR, hb⟩
      have H6 := Lib.hid hR
      clear hR
      replace H1 := Lib.hid ((Hid.out H1).more_below hb)
      replace HL := Lib.hid ((Hid.out HL).trans (hb.mono (Hid.out HL).size))
      clear hb
      go_wp2_with fail
      refine (HR2.out w10 H1.out).mono ?_
      rintro e w11 ⟨A11, c11, rfl, -, hR, hb⟩
      have H7 := Lib.hid hR
      clear hR
      replace H1 := Lib.hid ((Hid.out H1).more_below hb)
      replace H6 := Lib.hid ((Hid.out H6).more_below hb)
      replace HL := Lib.hid ((Hid.out HL).trans (hb.mono (Hid.out HL).size))
      clear hb
      go_wp2_with fail
      refine (same_texts w11 A10 A11 c10 c11 rs (by omega) H6.out H7.out).mono ?_
      rintro e w12 ⟨rfl, hb⟩
      replace H1 := Lib.hid ((Hid.out H1).more_below hb)
      replace HL := Lib.hid ((Hid.out HL).trans (hb.mono (Hid.out HL).size))
      clear hb
      clear H6 H7
      go_wp2_with fail
      refine (HZ1.out w12 H1.out).mono ?_
      rintro e w13 ⟨A13, c13, rfl, -, hR, hb⟩
      have H6 := Lib.hid hR
      clear hR
      replace H1 := Lib.hid ((Hid.out H1).more_below hb)
      replace HL := Lib.hid ((Hid.out HL).trans (hb.mono (Hid.out HL).size))
      clear hb
      go_wp2_with fail
      refine (HZ2.out w13 H1.out).mono ?_
      rintro e w14 ⟨A14, c14, rfl, -, hR, hb⟩
      have H7 := Lib.hid hR
      clear hR
      replace H1 := Lib.hid ((Hid.out H1).more_below hb)
      replace H6 := Lib.hid ((Hid.out H6).more_below hb)
      replace HL := Lib.hid ((Hid.out HL).trans (hb.mono (Hid.out HL).size))
      clear hb
      go_wp2_with fail
      refine (same_texts w14 A13 A14 c13 c14 zs (by omega) H6.out H7.out).mono ?_
      rintro e w15 ⟨rfl, hb⟩
      replace H1 := Lib.hid ((Hid.out H1).more_below hb)
      replace HL := Lib.hid ((Hid.out HL).trans (hb.mono (Hid.out HL).size))
      clear hb
      go_wp2_with fail
      refine (awake_any _ (Lib.hid (HLt.out.next HL.out))).mono ?_; rintro e w9 ⟨rfl, hb⟩; replace HL := Lib.hid (HL.out.trans (hb.mono HL.out.size)); clear hb; go_wp2; go_ret; exact ⟨rfl, HL.out⟩
theorem sets_all (W : World) (v0 : Value) (v1 : Value) (h0 : V30 W v0) (h1 : V26 W v1) (HLt : Hid (Lets W)) :
    Calls Tryd.prog 4 #[v0, v1] W fun e w' => e = .returned (.bool true) ∧ Below W.heap.size W w' := by
  obtain ⟨A, ca, xs, rfl, a1, a2, hR, hz⟩ := mbs h0
  obtain ⟨q, rfl, hq⟩ := h1
  exact sets_walk W A ca xs q.name q.rack q.zone q.up HLt (Nat.le_trans a1 a2) hR hz hq
end Go.Proofs.YtfkjoeibofnnoaaDoor.tp
