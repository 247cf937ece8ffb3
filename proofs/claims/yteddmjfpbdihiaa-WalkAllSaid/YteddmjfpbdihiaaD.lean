/- The order of members, by the package. -/
import Derived.Test.YteddmjfpbdihiaaC
namespace Go.Proofs.Yteddmjfpbdihiaa.walk
open Go.ChangeShapes Go.WideShapes Go.ChangeAt Go.RowKit Go.Proofs.Aid
open Go.Proofs.Yteddmjfpbdihiaa.ints (i64c)
theorem zero3 (w : World) : (zeroValue 3).run Try.prog w = .ok (.int .i64 0) w := by kernel_rfl
def nm (ns : List ByteArray) (k : Nat) (s : ByteArray) : Option Int := (fnd (ns.take k) s).map Int.ofNat
theorem fnd_snoc (l : List ByteArray) (x s : ByteArray) : fnd (l ++ [x]) s = match fnd l s with | some i => some i | none => if x = s then some l.length else none := by
  unfold fnd; rw [List.findIdx?_append]
  cases h : List.findIdx? (fun x => decide (x = s)) l with
  | some i => simp
  | none =>
    by_cases e : x = s <;> simp [List.findIdx?_cons, e]
theorem nm_zero (ns : List ByteArray) : nm ns 0 = fun _ => none := by funext s; simp [nm, fnd]
theorem nm_old {ns : List ByteArray} {k : Nat} (hk : k < ns.length) {i : Int} (h : nm ns k ns[k] = some i) (s : ByteArray) : nm ns k s = nm ns (k + 1) s := by
  unfold nm at h ⊢
  rw [List.take_succ_eq_append_getElem hk, fnd_snoc]
  cases hf : fnd (ns.take k) s with
  | some j => rfl
  | none =>
    by_cases e : ns[k] = s
    · rw [e, hf] at h; cases h
    · rw [if_neg e]
theorem nm_new {ns : List ByteArray} {k : Nat} (hk : k < ns.length) (h : nm ns k ns[k] = none) (s : ByteArray) : upd (nm ns k) ns[k] (some (k : Int)) s = nm ns (k + 1) s := by
  by_cases e : s = ns[k]
  · subst e
    rw [upd_same]
    unfold nm at h ⊢
    rw [List.take_succ_eq_append_getElem hk, fnd_snoc]
    cases hf : fnd (ns.take k) ns[k] with
    | some j => rw [hf] at h; cases h
    | none => simp; omega
  · rw [upd_other _ _ e]
    unfold nm
    rw [List.take_succ_eq_append_getElem hk, fnd_snoc]
    cases hf : fnd (ns.take k) s with
    | some j => rfl
    | none => rw [if_neg (Ne.symm e)]
def un (ns : List ByteArray) (T : List Int) (s : ByteArray) : Option Int := match fnd ns s with | some i => if (i : Int) ∈ T then none else some (i : Int) | none => none
theorem un_first (ns : List ByteArray) (s : ByteArray) : nm ns ns.length s = un ns [] s := by
  unfold nm un; rw [List.take_length]; cases fnd ns s <;> simp
theorem un_del {ns : List ByteArray} {T : List Int} {s : ByteArray} {i : Nat} (h : fnd ns s = some i) (t : ByteArray) : upd (un ns T) s none t = un ns (T ++ [(i : Int)]) t := by
  by_cases e : t = s
  · subst e; rw [upd_same]; unfold un; rw [h]; simp
  · rw [upd_other _ _ e]; unfold un
    cases hf : fnd ns t with
    | none => rfl
    | some j =>
      have hji : j ≠ i := fun q => by
        subst q
        obtain ⟨h1, h2, _⟩ := fnd_some.1 h
        obtain ⟨_, h3, _⟩ := fnd_some.1 hf
        exact e (h3.symm.trans h2)
      have : ((j : Int) ∈ T ++ [(i : Int)]) ↔ (j : Int) ∈ T := by simp; omega
      simp only [this]
theorem un_none {ns : List ByteArray} {T : List Int} {s : ByteArray} (h : fnd ns s = none) : un ns T s = none := by unfold un; rw [h]
theorem un_old {ns : List ByteArray} {T : List Int} {s : ByteArray} {i : Nat} (h : fnd ns s = some i) (hm : (i : Int) ∈ T) : un ns T s = none := by unfold un; rw [h]; simp [hm]
theorem un_new {ns : List ByteArray} {T : List Int} {s : ByteArray} {i : Nat} (h : fnd ns s = some i) (hm : (i : Int) ∉ T) : un ns T s = some (i : Int) := by unfold un; rw [h]; simp [hm]
theorem mk_ints (w : World) (m : Nat) (hm : m ≤ 1000) : (Instr.makeSlice 28 (.int .i64 0) (.int .i64 m)).run Try.prog w = .ok (.slice (some ⟨w.heap.size, 0, none⟩) 0 m) (w.alloc (.cells (madeCells #[.int .i64 0] m) 3)) := by
  obtain ⟨i0, hi0, hz0, hz1, hz2⟩ := info_parts info3
  have h := run_make (P := Try.prog) w 28 3 i0 (.int .i64 0) Try.underlying28 hi0 hz0 .i64 .i64 0 m (by omega) (by omega) (by rw [hz2]; omega) (by omega)
  rw [h, hz1]
  simp [Value.cells]
theorem row_made (w : World) (m : Nat) (hm : m ≤ 1000) (base : Nat) (hb : base ≤ w.heap.size) : Row (w.alloc (.cells (madeCells #[.int .i64 0] m) 3)) base 3 1 i64c (.slice (some ⟨w.heap.size, 0, none⟩) 0 m) [] := by
  unfold Row
  exact World.ownsRow_made w _ m hb (by unfold maxLen; omega) (by simp [size_madeCells])
theorem frm_mod {f : Int} {n : Nat} (h : 1 ≤ n) : frm f n = f % n := if_neg (by omega)
set_option maxRecDepth 100000 in
set_option maxHeartbeats 4000000 in
theorem order_any (w : World) (A B : Option Addr) (ca cb : Nat) (os : List R9) (rs : List R34) (part : Int) (ho : os.length ≤ 40) (hr : rs.length ≤ 40) (h1 : Reads w w.heap.size 1 A os.length (os.flatMap R9.cells)) (h2 : Reads w w.heap.size 4 B rs.length (rs.flatMap R34.cells))
    (hs1 : ∀ r ∈ os, r.v.size ≤ maxLen) (hs2 : ∀ r ∈ rs, r.name.size ≤ maxLen) :
    Calls Try.prog 9 #[.slice A os.length ca, .slice B rs.length cb, .int .i64 part] w fun e w' => ∃ v, e = .returned v ∧ Row w' w.heap.size 3 1 i64c v (order (rs.map R34.name) os part) ∧ Below w.heap.size w w' := by
  obtain ⟨i0, hi0, hz0, hz1, hz2⟩ := info_parts info3
  have H1 := Lib.hid h1
  have H2 := Lib.hid h2
  have HS1 := Lib.hid hs1
  have HS2 := Lib.hid hs2
  clear h1 h2 hs1 hs2
  have HO := Lib.hid (show order (rs.map R34.name) os part = told (rs.map R34.name) os (frm part os.length) os.length ++ restTo (told (rs.map R34.name) os (frm part os.length) os.length) rs.length by unfold order; simp)
  have hmm := @run_makeMap Try.prog
  have hst : MapF Try.prog 9 3 (w.alloc (.map #[] 0)) w.heap.size 0 (nm (rs.map R34.name) 0) := by rw [nm_zero]; exact MapF.made w _ _ _
  go_enter Try.func9, Try.ntmps9
  go_wp2_with fail
  generalize hb : w.heap.size = b at hst ⊢
  have HB := Lib.hid hb
  clear hb
  go_loopw [21] (fun iv wr => ∃ k : Nat, k ≤ rs.length ∧ iv = .int .i64 k ∧ MapF Try.prog 9 3 wr b k (nm (rs.map R34.name) k) ∧ Below b w wr) (fun iv _ => rs.length - (intOf iv).toNat)
  case atStart => exact ⟨0, by omega, rfl, hst, (Below.refl _ _).alloc (by have := HB.out; omega) _⟩
  case round =>
    obtain ⟨k, hk, rfl, hmap, hlow⟩ := hrel
    clear hst
    by_cases hlt : k < rs.length
    · obtain ⟨ad, q1, -, c0, c1, c2, c3⟩ := elem34 (H2.out.below (HB.out ▸ hlow)) hlt
      subst q1
      have hsn := Lib.hid (HS2.out _ (List.getElem_mem hlt))
      have hlt' : k < (rs.map R34.name).length := by simpa using hlt
      have hnk : (rs.map R34.name)[k] = rs[k].name := by simp
      have hold := Lib.hid (fun i => nm_old hlt' (i := i))
      have hnew := Lib.hid (nm_new hlt')
      rw [hnk] at hold hnew
      clear hlt' hnk
      generalize rs[k].name = s at *
      generalize rs[k].rack = s1 at *
      generalize rs[k].zone = s2 at *
      generalize rs[k].up = s3 at *
      cases hf : nm (rs.map R34.name) k s with
      | some i =>
        have HF := Lib.hid hf
        clear hf
        go_wp2_with (at_lookup; refine wpList_lookup_some rfl _ _ 37 rfl Try.underlying9 Try.underlying37 Try.underlying3 (zero3 _) b k (nm (rs.map R34.name) k) rfl (hmap.below (by repeat (first | exact Below.refl _ _ | (refine Below.setCell ?_ (by simp) _) | (refine Below.alloc ?_ (by simp) _)))) s rfl hsn.out i HF.out ?_)
        have hm2 := ((hmap.alloc (.cells #[.string s, .string s1, .string s2, .bool s3] 34)).eq (hold.out i HF.out)).mono (Nat.le_succ _)
        go_roundw
        case rel => exact ⟨k + 1, by omega, by go_num, hm2, hlow.alloc (by have := hmap.lt; omega) _⟩
        case measure => simp [intOf]; omega
      | none =>
        have HF := Lib.hid hf
        clear hf
        go_wp2_with (first
          | (at_lookup; refine wpList_lookup_none rfl _ _ 37 rfl Try.underlying9 Try.underlying37 Try.underlying3 (zero3 _) b k (nm (rs.map R34.name) k) rfl (hmap.below (by repeat (first | exact Below.refl _ _ | (refine Below.setCell ?_ (by simp) _) | (refine Below.alloc ?_ (by simp) _)))) s rfl hsn.out HF.out ?_)
          | (at_mapUpdate; refine wpList_store_mapF rfl _ _ _ 37 rfl Try.underlying9 Try.underlying37 Try.underlying3 b k (nm (rs.map R34.name) k) rfl (hmap.below (by repeat (first | exact Below.refl _ _ | (refine Below.setCell ?_ (by simp) _) | (refine Below.alloc ?_ (by simp) _)))) (by unfold maxLen; omega) s k rfl rfl hsn.out (WalkArith.wf_i64 (by omega)) ?_; intro w1 hm1 hg1))
        have hm2 := hm1.eq (hnew.out HF.out)
        have hlow' := (hlow.alloc (by have := hmap.lt; omega) (.cells #[.string s, .string s1, .string s2, .bool s3] 34)).grown hg1 (by have := hmap.lt; simp; omega) (fun q hq => by cases hq; exact Nat.le_refl _)
        go_roundw
        case rel => exact ⟨k + 1, by omega, by go_num, hm2, hlow'⟩
        case measure => simp [intOf]; omega
    · have hkl : k = rs.length := by omega
      subst hkl
      have hmap1 : MapF Try.prog 9 3 wr b rs.length (un (rs.map R34.name) (told (rs.map R34.name) os (frm part os.length) 0)) := hmap.eq (by have := un_first (rs.map R34.name); rw [List.length_map] at this; exact this)
      have hbl := hmap.lt
      have hsz : b ≤ wr.heap.size := by omega
      clear hmap hmm
      have hns : ∃ ns, rs.map R34.name = ns ∧ ns.length = rs.length := ⟨_, rfl, by simp⟩
      obtain ⟨ns, hns, hnl⟩ := hns
      rw [hns] at hmap1 HO
      have HNS := Lib.hid hns
      have HNL := Lib.hid hnl
      clear hns hnl
      go_wp2_with fail
      refine (from_any part os.length wr (by omega)).mono ?_
      rintro e wx ⟨rfl, rfl⟩
      have hf := frm_rng part os.length
      generalize frm part os.length = f at *
      obtain ⟨hf0, hf1⟩ := hf
      have hmk := fun w => mk_ints w rs.length (by omega)
      go_wp2_with fail
      have hrow1 : Row (wx.alloc (.cells (madeCells #[.int .i64 0] rs.length) 3)) (b + 1) 3 1 i64c (.slice (some ⟨wx.heap.size, 0, none⟩) 0 rs.length) (told ns os f 0) := row_made wx rs.length (by omega) (b + 1) (by omega)
      have hmap2 := hmap1.alloc (.cells (madeCells #[.int .i64 0] rs.length) 3)
      have hlow2 := hlow.alloc hsz (.cells (madeCells #[.int .i64 0] rs.length) 3)
      clear hmk hmap1 hlow
      have hb1 : b + 1 ≤ (wx.alloc (.cells (madeCells #[.int .i64 0] rs.length) 3)).heap.size := by simp; omega
      generalize wx.alloc (.cells (madeCells #[.int .i64 0] rs.length) 3) = wy at *
      generalize hv : Value.slice (some ⟨wx.heap.size, 0, none⟩) 0 rs.length = v0 at hrow1 ⊢
      clear hv hsz hbl
      go_loopw [13, 14, 49] (fun v _ iv wr => ∃ k : Nat, k ≤ os.length ∧ iv = .int .i64 k ∧ Row wr (b + 1) 3 1 i64c v (told ns os f k) ∧ MapF Try.prog 9 3 wr b rs.length (un ns (told ns os f k)) ∧ Below b w wr ∧ b + 1 ≤ wr.heap.size) (fun _ _ iv _ => os.length - (intOf iv).toNat)
      case atStart => exact ⟨0, by omega, rfl, hrow1, hmap2, hlow2, hb1⟩
      case round =>
        clear hrow1 hmap2 hlow2 hb1
        obtain ⟨k, hk, rfl, hrow, hmap, hlow, hsz⟩ := hrel
        have hlen := told_len ns os f k
        by_cases hlt : k < os.length
        · obtain ⟨q, hq, hqlt, ad, rfl, -, c1⟩ := owner_at (f := f) (ad := ⟨0, 0, none⟩) (H1.out.below (HB.out ▸ hlow)) hlt
          have hfm : frm (f + k) os.length = q := by rw [frm_mod (by omega), hq]
          have hq0 : (0 : Int) ≤ q := by omega
          have hso : Hid ((ownerAt os f k).size ≤ maxLen) := by
            have := HS1.out
            unfold ownerAt
            rw [hq]; simp [hqlt]
            exact this _ (List.getElem_mem hqlt)
          have hok := Lib.hid (⟨told_none (ns := ns) (os := os) (f := f) (k := k), fun i => told_old (ns := ns) (os := os) (f := f) (k := k) (i := i), fun i => told_new (ns := ns) (os := os) (f := f) (k := k) (i := i)⟩ : (fnd ns (ownerAt os f k) = none → _) ∧ (∀ i, fnd ns (ownerAt os f k) = some i → _ ∈ _ → _) ∧ (∀ i, fnd ns (ownerAt os f k) = some i → _ ∉ _ → _))
          generalize ownerAt os f k = own at *
          have HFM := Lib.hid hfm
          clear hq hfm
          go_wp2_with fail
          refine (from_any (f + k) os.length wr (by omega)).mono ?_
          rw [HFM.out]
          rintro e wx2 ⟨rfl, rfl⟩
          clear HFM
          by_cases hthere : ∃ i, fnd ns own = some i ∧ (i : Int) ∉ told ns os f k
          · obtain ⟨i, hfn, hin⟩ := hthere
            have hro := Lib.hid (hok.out.2.2 i hfn hin)
            have hu := Lib.hid (un_new hfn hin)
            have hd := Lib.hid (un_del (T := told ns os f k) hfn)
            have hi9 : i ≤ 40 := by have := (fnd_some.1 hfn).1; have := HNL.out; omega
            clear hok hfn hin
            generalize told ns os f k = T at *
            go_wp2_with (first
              | (at_lookup; refine wpList_lookup_some rfl _ _ 37 rfl Try.underlying9 Try.underlying37 Try.underlying3 (zero3 _) b rs.length (un ns T) rfl hmap own rfl hso.out i hu.out ?_)
              | (at_builtin; refine wpList_append_row _ rfl _ _ 28 rfl (b + 1) 3 i0 (.int .i64 0) 1 8 Try.underlying28 hi0 hz0 hz1 hz2 rfl (by decide) _ _ rfl (hrow.alloc _) (fun _ => rfl) _ (i : Int) rfl (cells_new _ _ _) (by simp [i64c, Value.oneCell']) (by unfold maxLen; omega) (by omega) (by simp; omega) ?_; intro v' w1 hrow' hgrow)
              | (at_delete; refine wpList_delete_mapF rfl _ _ 37 rfl Try.underlying9 Try.underlying37 b rs.length (un ns T) rfl ((hmap.alloc _).kept hgrow (fun e => by have := hrow.own e.symm; omega)) own rfl hso.out ?_; intro w2 hm2 hg2))
            have hm3 := hm2.eq hd.out
            have hl1 := low_row hlow hrow (Nat.le_succ _) (by omega) hgrow
            have hs1 := hgrow.size
            have hs2 := hg2.size
            have hs3 : wx2.heap.size + 1 ≤ w1.heap.size := by simpa using hs1
            have hl2 := hl1.grown hg2 (by omega) (fun q hq => by cases hq; exact Nat.le_refl _)
            have hr2 := hrow'.kept hg2 (fun g hg e => by cases e; have := hrow'.own hg; omega)
            go_roundw
            case rel => exact ⟨k + 1, by omega, by go_num, by rw [hro.out]; exact hr2, by rw [hro.out]; exact hm3, hl2, by omega⟩
            case measure => simp [intOf]; omega
          · have hno : told ns os f (k + 1) = told ns os f k ∧ un ns (told ns os f k) own = none := by
              cases hfn : fnd ns own with
              | none => exact ⟨hok.out.1 hfn, un_none hfn⟩
              | some i =>
                have hin : (i : Int) ∈ told ns os f k := Decidable.byContradiction fun h => hthere ⟨i, hfn, h⟩
                exact ⟨hok.out.2.1 i hfn hin, un_old hfn hin⟩
            have hro := Lib.hid hno.1
            have hu := Lib.hid hno.2
            clear hok hthere hno
            generalize told ns os f k = T at *
            go_wp2_with (at_lookup; refine wpList_lookup_none rfl _ _ 37 rfl Try.underlying9 Try.underlying37 Try.underlying3 (zero3 _) b rs.length (un ns T) rfl hmap own rfl hso.out hu.out ?_)
            go_roundw
            case rel => exact ⟨k + 1, by omega, by go_num, by rw [hro.out]; exact hrow, by rw [hro.out]; exact hmap, hlow, hsz⟩
            case measure => simp [intOf]; omega
        · have hkl : k = os.length := by omega
          subst hkl
          have htm := Lib.hid (fun x => told_mem (ns := ns) (os := os) (f := f) (k := os.length) (x := x))
          generalize told ns os f os.length = T at *
          obtain ⟨A2, c2, rfl, hrr⟩ := hrow.reads
          have HRR := Lib.hid hrr
          clear hrr
          go_wp2_with fail
          refine (rest_any wr B A2 cb c2 rs.length T (by omega) (by omega) HRR.out (fun x hx => by have := htm.out x hx; have := HNL.out; omega)).mono ?_
          rintro e w3 ⟨v3, rfl, hr3, hb3⟩
          have hlr := restTo_len T rs.length
          obtain ⟨A3, c3, rfl, hrr3⟩ := hr3.reads
          have HRR3 := Lib.hid hrr3
          have hrow3 := hrow.below hb3
          have hs3 := hb3.size
          clear hrr3
          go_wp2_with (at_builtin; refine wpList_append_rows _ rfl _ _ 28 rfl (b + 1) 3 i0 (.int .i64 0) 1 8 Try.underlying28 hi0 hz0 hz1 hz2 rfl (by decide) _ _ rfl hrow3 _ _ _ (restTo T rs.length) rfl HRR3.out (fun y _ u hu => by simp [i64c] at hu; subst hu; rfl) (by unfold maxLen; omega) (by omega) (by omega) ?_; intro v' w4 hrow4 hgrow4)
          have hl4 := low_grown (hlow.trans (hb3.mono (by omega))) (Nat.le_succ _) (by omega) hrow3 hgrow4
          go_ret
          exact ⟨_, rfl, by rw [HNS.out, HO.out, HB.out]; exact hrow4.more (Nat.le_succ _), by rw [HB.out]; exact hl4⟩
end Go.Proofs.Yteddmjfpbdihiaa.walk
