/- Members: the same, few, those that are up by the reference; the key of a node. -/
import Derived.Test.YtfkjoeibofnnoaaDoorTpC
import Derived.Test.YtfkjoeibofnnoaaDoorRgE
namespace Go.Proofs.YtfkjoeibofnnoaaDoor.tp
set_option linter.unusedSimpArgs false
open Go.ChangeShapes Go.WideShapes Go.ChangeAt Go.RowKit Go.Proofs.Aid
open Go.Proofs.YtfkjoeibofnnoaaDoor.nm (Lets joinS)
open Go.Proofs.YtfkjoeibofnnoaaDoor.texts (tc)
theorem elemM {w : World} {B : Nat} {A : Option Addr} {rs : List Mb} (h : Reads w B 4 A rs.length (rs.flatMap Mb.cells)) {i : Nat} (hi : i < rs.length) :
    ∃ ad, A = some ad ∧ ad.block < B ∧ w.cell? (ad.add (i * 4)) = some (.string rs[i].n) ∧ w.cell? ⟨(ad.add (i * 4)).block, (ad.add (i * 4)).off + 1, none⟩ = some (.string rs[i].r) ∧ w.cell? ⟨(ad.add (i * 4)).block, (ad.add (i * 4)).off + 2, none⟩ = some (.string rs[i].z) ∧ w.cell? ⟨(ad.add (i * 4)).block, (ad.add (i * 4)).off + 3, none⟩ = some (.bool rs[i].u) := by
  obtain ⟨ad, e, hb, hc⟩ := h.elem Mb.len hi
  have x1 : ∀ j, (⟨(ad.add (i * 4)).block, (ad.add (i * 4)).off + (j + 1), none⟩ : Addr) = ad.add (i * 4 + (j + 1)) := fun j => by rw [← add_of_add]; rfl
  refine ⟨ad, e, hb, by simpa using hc 0 _ rfl, ?_, ?_, ?_⟩
  · rw [x1]; exact hc 1 _ rfl
  · rw [x1]; exact hc 2 _ rfl
  · rw [x1]; exact hc 3 _ rfl
instance : DecidableEq Mb := fun a b => by
  cases a; cases b
  simp only [Mb.mk.injEq]
  infer_instance
theorem neqM_at {x y : Mb} (h : ¬ x = y) (w : World) : (binOp .neq 26 x.val y.val).run Tryd.prog w = .ok (.bool true) w := by
  obtain ⟨k, n, b, v⟩ := x
  obtain ⟨k2, m, c, u⟩ := y
  go_simp
  intro h0 h1 h2 h3
  refine h ?_
  rw [rgy.data_eq h0, rgy.data_eq h1, rgy.data_eq h2, h3]
theorem neqM_same (x : Mb) (w : World) : (binOp .neq 26 x.val x.val).run Tryd.prog w = .ok (.bool false) w := by
  obtain ⟨k, n, b, v⟩ := x
  go_simp
theorem same_noM {xs ys : List Mb} {k : Nat} (h1 : k < xs.length) (h2 : k < ys.length) (h : ¬ xs[k] = ys[k]) : decide (xs = ys) = false := by
  rw [decide_eq_false_iff_not]; rintro rfl; exact h rfl
theorem same_yesM {xs ys : List Mb} (hl : xs.length = ys.length) (h : ∀ j (h1 : j < xs.length) (h2 : j < ys.length), xs[j] = ys[j]) : decide (xs = ys) = true := by
  rw [decide_eq_true_eq]; exact List.ext_getElem hl fun j h1 h2 => h j h1 h2
set_option maxRecDepth 100000 in
set_option maxHeartbeats 4000000 in
theorem rsame_any (w : World) (A B : Option Addr) (ca cb : Nat) (xs ys : List Mb) (hla : xs.length ≤ 1000000) (hlb : ys.length ≤ 1000000) (h1 : Reads w w.heap.size 4 A xs.length (xs.flatMap Mb.cells)) (h2 : Reads w w.heap.size 4 B ys.length (ys.flatMap Mb.cells)) :
    Calls Tryd.prog 10 #[.slice A xs.length ca, .slice B ys.length cb] w fun e w' => e = .returned (.bool (decide (xs = ys))) ∧ Below w.heap.size w w' := by
  have H1 := Lib.hid h1
  have H2 := Lib.hid h2
  clear h1 h2
  by_cases hlen : xs.length = ys.length
  · have hL := Lib.hid hlen
    have hLb : (xs.length != ys.length) = false := by simpa using hlen
    have hLb2 : ((xs.length : Int) != (ys.length : Int)) = false := by rw [bne_eq_false_iff_eq]; omega
    clear hlen
    go_enter Tryd.func10, Tryd.ntmps10
    go_wp2_with fail
    go_loopw [5] (fun iv w' => ∃ k : Nat, k ≤ xs.length ∧ iv = .int .i64 k ∧ Hid (∀ j (h1 : j < xs.length) (h2 : j < ys.length), j < k → xs[j] = ys[j]) ∧ Hid (Below w.heap.size w w')) (fun iv _ => xs.length - (intOf iv).toNat)
    case atStart => exact ⟨0, by omega, rfl, fun _ _ _ h => by omega, Below.refl _ _⟩
    case round =>
      obtain ⟨k, hk, rfl, hI, hb⟩ := hrel
      by_cases hlt : k < xs.length
      · have hltb : k < ys.length := by have := hL.out; omega
        obtain ⟨a1, q1, -, c0, c1, c2, c3⟩ := elemM (H1.out.below hb.out) hlt
        obtain ⟨a2, q2, -, d0, d1, d2, d3⟩ := elemM (H2.out.below hb.out) hltb
        subst q1 q2
        have hno := Lib.hid (fun h => same_noM hlt hltb h)
        have hyes : Hid (xs[k] = ys[k] → ∀ j (h1 : j < xs.length) (h2 : j < ys.length), j < k + 1 → xs[j] = ys[j]) := fun h j h1 h2 hj => by
          by_cases e : j < k
          · exact hI.out j h1 h2 e
          · have : j = k := by omega
            subst this; exact h
        clear hI
        generalize xs[k] = x at *
        generalize ys[k] = y at *
        by_cases he : x = y
        · have hI2 := Lib.hid (hyes.out he)
          subst he
          have hq := neqM_same x
          clear hno hyes
          go_wp2_with fail
          go_quiet (fail)
          have hb2 : ∀ n, Hid (Below w.heap.size w (World.drewN _ n)) := fun n => below_drewN hb.out n
          go_wp2
          go_roundw
          case rel => exact ⟨k + 1, by omega, by go_num, hI2, hb2 _⟩
          case measure => simp [intOf]; omega
        · have hN := Lib.hid (hno.out he)
          have hq := neqM_at he
          clear hno hyes he
          go_wp2_with fail
          go_quiet (fail)
          have hb2 : ∀ n, Hid (Below w.heap.size w (World.drewN _ n)) := fun n => below_drewN hb.out n
          go_wp2
          go_ret
          exact ⟨reg.ret_bool (by rw [hN.out]), (hb2 _).out⟩
      · have hN := Lib.hid (same_yesM hL.out (fun j h1 h2 => hI.out j h1 h2 (by omega)))
        go_wp2
        go_ret
        exact ⟨reg.ret_bool (by rw [hN.out]), hb.out⟩
  · have hN := Lib.hid (show decide (xs = ys) = false by rw [decide_eq_false_iff_not]; rintro rfl; exact hlen rfl)
    have hLb : (xs.length != ys.length) = true := by simpa using hlen
    have hLb2 : ((xs.length : Int) != (ys.length : Int)) = true := by rw [bne_iff_ne]; omega
    go_enter Tryd.func10, Tryd.ntmps10
    go_wp2
    go_ret
    exact ⟨reg.ret_bool (by rw [hN.out]), Below.refl _ _⟩
def Mb.few (m : Mb) : Prop := m.n.size ≤ 100 ∧ m.r.size ≤ 100 ∧ m.z.size ≤ 100
def Mb.sz (m : Mb) : Prop := m.n.size ≤ maxLen ∧ m.r.size ≤ maxLen ∧ m.z.size ≤ maxLen
def FewM (w : World) (n : Nat) (xs : List Mb) (e : Ending) (w' : World) : Prop := ∃ b, e = .returned (.bool b) ∧ Below w.heap.size w w' ∧ (b = true → xs.length ≤ n ∧ ∀ x ∈ xs, x.few)
set_option maxRecDepth 100000 in
set_option maxHeartbeats 4000000 in
theorem rfew_any (w : World) (A : Option Addr) (ca : Nat) (xs : List Mb) (m : Nat) (hm : m ≤ 1000) (hl : xs.length ≤ maxLen) (h1 : Reads w w.heap.size 4 A xs.length (xs.flatMap Mb.cells)) (hs : ∀ r ∈ xs, r.sz) :
    Calls Tryd.prog 15 #[.slice A xs.length ca, .int .i64 m] w (FewM w m xs) := by
  have H1 := Lib.hid h1
  have HS := Lib.hid hs
  unfold maxLen at hl
  clear h1 hs
  go_enter Tryd.func15, Tryd.ntmps15
  go_wp2_with fail
  go_loopw [5] (fun iv wr => ∃ k : Nat, k ≤ xs.length ∧ k ≤ m ∧ iv = .int .i64 k ∧ Hid (∀ j (_ : j < xs.length), j < k → xs[j].few) ∧ Hid (Below w.heap.size w wr)) (fun iv _ => xs.length - (intOf iv).toNat)
  case atStart => exact ⟨0, by omega, by omega, rfl, fun _ _ h => by omega, Below.refl _ _⟩
  case round =>
    obtain ⟨k, hk, hkm, rfl, hI, hlow⟩ := hrel
    by_cases hlt : k < xs.length
    · by_cases hlm : k < m
      · obtain ⟨ad, rfl, had, c0, c1, c2, c3⟩ := elemM (H1.out.below hlow.out) hlt
        have hsz := HS.out _ (List.getElem_mem hlt)
        have hnx : Hid (xs[k].few → ∀ j (_ : j < xs.length), j < k + 1 → xs[j].few) := fun h j hj hjk => by
          by_cases e : j < k
          · exact hI.out j hj e
          · have : j = k := by omega
            subst this; exact h
        clear hI
        generalize xs[k] = xe at *
        obtain ⟨nn, rr, zz, uu⟩ := xe
        obtain ⟨z0, z1, z2⟩ := hsz
        simp only at c0 c1 c2 c3 z0 z1 z2 hnx
        unfold maxLen at z0 z1 z2
        by_cases h0 : nn.size ≤ 100
        · by_cases h1 : rr.size ≤ 100
          · by_cases h2 : zz.size ≤ 100
            · have hN := Lib.hid (hnx.out ⟨h0, h1, h2⟩)
              clear hnx
              go_wp2
              go_roundw
              case rel => exact ⟨k + 1, by omega, by omega, by go_num, hN, hlow⟩
              case measure => simp [intOf]; omega
            · go_wp2
              go_ret
              exact ⟨_, rfl, hlow.out, fun h => by cases h⟩
          · go_wp2
            go_ret
            exact ⟨_, rfl, hlow.out, fun h => by cases h⟩
        · go_wp2
          go_ret
          exact ⟨_, rfl, hlow.out, fun h => by cases h⟩
      · have hkm2 : k = m := by omega
        go_wp2
        go_ret
        exact ⟨_, rfl, hlow.out, fun h => by simp at h; omega⟩
    · have hkl : k = xs.length := by omega
      have hI2 : Hid (∀ x ∈ xs, x.few) := fun x hx => by
        obtain ⟨j, hj, rfl⟩ := List.getElem_of_mem hx
        exact hI.out j hj (by omega)
      clear hI
      go_wp2
      go_ret
      exact ⟨_, rfl, hlow.out, fun h => ⟨by simp at h; omega, hI2.out⟩⟩
/-- Those that are up. -/
def upsK (xs : List Mb) (k : Nat) : List Mb := (xs.take k).filter Mb.u
theorem upsK_yes {xs : List Mb} {k : Nat} (h : k < xs.length) (hu : xs[k].u = true) : upsK xs (k + 1) = upsK xs k ++ [xs[k]] := by
  unfold upsK; rw [List.take_succ_eq_append_getElem h, List.filter_append]; simp [hu]
theorem upsK_no {xs : List Mb} {k : Nat} (h : k < xs.length) (hu : xs[k].u = false) : upsK xs (k + 1) = upsK xs k := by
  unfold upsK; rw [List.take_succ_eq_append_getElem h, List.filter_append]; simp [hu]
theorem upsK_all (xs : List Mb) : upsK xs xs.length = xs.filter Mb.u := by unfold upsK; rw [List.take_length]
theorem upsK_len (xs : List Mb) (k : Nat) : (upsK xs k).length ≤ k := by
  unfold upsK
  exact Nat.le_trans (List.length_filter_le _ _) (by rw [List.length_take]; omega)
set_option maxRecDepth 100000 in
set_option maxHeartbeats 4000000 in
theorem rup_any (w : World) (A : Option Addr) (ca : Nat) (xs : List Mb) (hl : xs.length ≤ 100000) (h1 : Reads w w.heap.size 4 A xs.length (xs.flatMap Mb.cells)) :
    Calls Tryd.prog 19 #[.slice A xs.length ca] w (RowM w (xs.filter Mb.u)) := by
  obtain ⟨i0, hi0, hz0, hz1, hz2⟩ := info_parts infoM
  have H1 := Lib.hid h1
  have HG := Lib.hid (upsK_all xs)
  clear h1
  have hrow0 : Row w w.heap.size 26 4 Mb.cells (.slice none 0 0) (upsK xs 0) := Row.nil _ _ _ _ _
  go_enter Tryd.func19, Tryd.ntmps19
  go_wp2_with fail
  go_loopw [3, 4] (fun v iv wr => ∃ k : Nat, k ≤ xs.length ∧ iv = .int .i64 k ∧ Row wr w.heap.size 26 4 Mb.cells v (upsK xs k) ∧ Below w.heap.size w wr) (fun _ iv _ => xs.length - (intOf iv).toNat)
  case atStart => exact ⟨0, by omega, rfl, hrow0, Below.refl _ _⟩
  case round =>
    clear hrow0
    obtain ⟨k, hk, rfl, hrow, hlow⟩ := hrel
    have hsz := hlow.size
    have hlen := upsK_len xs k
    by_cases hlt : k < xs.length
    · obtain ⟨ad, rfl, had, c0, c1, c2, c3⟩ := elemM (H1.out.below hlow) hlt
      have hyes := Lib.hid (upsK_yes hlt)
      have hno := Lib.hid (upsK_no hlt)
      generalize upsK xs k = L at *
      generalize xs[k] = xe at *
      obtain ⟨nn, rr, zz, uu⟩ := xe
      simp only at c0 c1 c2 c3 hyes hno
      cases uu with
      | false =>
        have hro := Lib.hid (hno.out rfl)
        clear hyes hno
        go_wp2
        go_roundw
        case rel => exact ⟨k + 1, by omega, by go_num, by rw [hro.out]; exact hrow, hlow⟩
        case measure => simp [intOf]; omega
      | true =>
        have hro := Lib.hid (hyes.out rfl)
        clear hyes hno
        go_wp2_with (at_builtin; refine wpList_append_row _ rfl _ _ 30 rfl w.heap.size 26 i0 _ 4 56 Tryd.underlying30 hi0 hz0 hz1 hz2 rfl (by decide) _ _ rfl (hrow.alloc _) Mb.len _ ⟨nn, rr, zz, true⟩ rfl (cells_new _ _ _) (one_M _) (by unfold maxLen; omega) (by omega) (by simp; omega) ?_; intro v' w2 hrow' hgrow)
        have hlow' := low_row' hlow hrow (Nat.le_refl _) hsz hgrow
        go_roundw
        case rel => exact ⟨k + 1, by omega, by go_num, by rw [hro.out]; exact hrow', hlow'⟩
        case measure => simp [intOf]; omega
    · have hkl : k = xs.length := by omega
      subst hkl
      go_wp2
      go_ret
      exact ⟨_, rfl, by rw [← HG.out]; exact hrow, hlow⟩
/-- The key of a node. -/
def keyS (s : ByteArray) : ByteArray := joinS [sNode, s]
theorem key_cat (s : ByteArray) : (⟨#[110, 111, 100, 101, 47]⟩ : ByteArray) ++ s = keyS s := by
  apply ByteArray.ext
  apply Array.toList_inj.1
  simp [keyS, joinS, Lib.join]
theorem key_list (s : ByteArray) : (keyS s).data.toList = [110, 111, 100, 101, 47] ++ s.data.toList := by
  simp [keyS, joinS, Lib.join]
theorem key_size (s : ByteArray) : (keyS s).size = 5 + s.size := by
  show (keyS s).data.size = _
  rw [← Array.length_toList, key_list]; simp; omega
set_option maxHeartbeats 1000000 in
theorem key_any (s : ByteArray) (w : World) (hs : s.size ≤ 1000000) :
    Calls Tryd.prog 13 #[.string s] w fun e w' => e = .returned (.string (keyS s)) ∧ Below w.heap.size w w' := by
  have hl0 := Lib.hid (below_lit w (.cells #[.string sNode, .string s] 9))
  have hsz := key_size s
  have hR := Lib.hid (lit1 (f := tc) (size := 1) w 9 [sNode, s] (fun _ => rfl))
  have hp := Lib.hid (nm.path_any (w.alloc (.cells #[.string sNode, .string s] 9)) (some ⟨w.heap.size, 0, none⟩) 2 [sNode, s] hR.out (by simp) (by simp) (by show (keyS s).data.toList.length ≤ _; rw [key_list]; simp; omega))
  clear hR
  go_enter Tryd.func13, Tryd.ntmps13
  go_wp2_with fail
  refine hp.out.mono ?_
  rintro e w1 ⟨rfl, hb⟩
  have hlf := Lib.hid (hl0.out.trans (hb.mono (by simp)))
  clear hb
  go_wp2
  go_ret
  exact ⟨rfl, hlf.out⟩
theorem rkey_any (s : ByteArray) (w : World) (hs : s.size ≤ 1000000) :
    Calls Tryd.prog 14 #[.string s] w fun e w' => e = .returned (.string (keyS s)) ∧ Below w.heap.size w w' := by
  have hc := key_cat s
  go_enter Tryd.func14, Tryd.ntmps14
  go_wp2
  go_ret
  exact ⟨rfl, Below.refl _ _⟩
end Go.Proofs.YtfkjoeibofnnoaaDoor.tp
