/- All tenants, by the reference: the walk. -/
import Derived.Test.YtjbompimlopdiaaGreatDoorTeF
namespace Go.Proofs.YtjbompimlopdiaaGreatDoor.te
set_option linter.unusedSimpArgs false
open Go.ChangeShapes Go.WideShapes Go.ChangeAt Go.RowKit Go.Proofs.Aid
open Go.Proofs.YtjbompimlopdiaaGreatDoor.rgy (En elemE underP)
open Go.Proofs.YtjbompimlopdiaaGreatDoor.texts (tc)
open Go.Proofs.YtjbompimlopdiaaGreatDoor.nm (Lets partsS strs_length)
open Go.Proofs.YtjbompimlopdiaaGreatDoor.sets (T)
set_option maxRecDepth 100000 in
set_option maxHeartbeats 8000000 in
theorem rall_any (w : World) (A : Option Addr) (ca : Nat) (xs : List En) (hl : xs.length ≤ 10000) (h1 : Reads w w.heap.size 4 A xs.length (xs.flatMap En.cells)) (hsh : short xs) (hk : ∀ x ∈ xs, x.key.size ≤ 1000) :
    Calls Tryz.prog 12 #[.slice A xs.length ca] w (TextsAt w (allT xs)) := by
  obtain ⟨i0, hi0, hz0, hz1, hz2⟩ := info_parts infoT
  have HX := Lib.hid h1
  have HOf := Lib.hid (fun w t h ht => rof_any w A ca xs t (by omega) h hsh ht)
  have HK := Lib.hid hk
  have HG := Lib.hid (setK_all xs)
  have hst := Lib.hid (show setK xs 0 = [] from rfl)
  have hstep := Lib.hid (fun k h => @setK_step xs k h)
  have hlen := Lib.hid (@setK_len xs)
  clear h1 hsh hk
  go_enter Tryz.func12, Tryz.ntmps12
  go_wp2_with fail
  go_loopw [3, 4] (fun v iv wr => ∃ (k : Nat) (A1 : Option Addr) (c1 : Nat), k ≤ xs.length ∧ iv = .int .i64 k ∧ v = .slice A1 (setK xs k).length c1 ∧ (setK xs k).length ≤ c1 ∧ Hid (Reads wr wr.heap.size 1 A1 (setK xs k).length ((nm.strs (setK xs k)).flatMap tc)) ∧ Hid (Below w.heap.size w wr)) (fun _ iv _ => xs.length - (intOf iv).toNat)
  case atStart => exact ⟨0, none, 0, by omega, rfl, rfl, Nat.le_refl _, ⟨rfl, fun h => absurd h (Nat.lt_irrefl 0)⟩, Below.refl _ _⟩
  case round =>
    obtain ⟨k, A1, c1, hkk, rfl, rfl, hc1, hR, hlow⟩ := hrel
    have hsz := hlow.out.size
    by_cases hlt : k < xs.length
    · have hrd := HX.out.below hlow.out
      obtain ⟨ad, rfl, had, c0, c1', c2, c3⟩ := elemE hrd hlt
      have hro := Lib.hid (hstep.out k hlt)
      have hll := hlen.out k hkk
      have hxk := HK.out _ (List.getElem_mem hlt)
      have hp3 := Lib.hid (fun p q r => @pickR_three xs[k] p q r)
      have hpo := Lib.hid (@pickR_other xs[k])
      clear hrd
      generalize setK xs k = L at *
      generalize hpp : pickR xs[k] = pk at *
      clear hpp
      generalize xs[k] = xe at *
      obtain ⟨kk, ⟨nn, bb, vv⟩⟩ := xe
      simp only at c0 c1' c2 c3 hxk hp3 hpo
      go_wp2_with fail
      refine (nm.rparts_any kk _ (by omega)).mono ?_
      rintro e w1 ⟨AP, cP, rfl, -, hRP, hb⟩
      have HR1 := Lib.hid (hR.out.more_below hb)
      have HL1 := Lib.hid (hlow.out.trans (hb.mono hsz))
      have hsz1 := HL1.out.size
      clear c0 c1' c2 c3 hR hlow hb
      have hps := nm.partsS_small kk
      generalize partsS kk = P at *
      by_cases h3 : P.length = 3
      case neg =>
        have h3' : ((P.length : Int) == 3) = false := by rw [beq_eq_false_iff_ne]; omega
        have hpk := Lib.hid (hpo.out h3)
        clear hRP
        have hrs : Hid (setK xs (k + 1) = L) := hro.out.trans (by rw [hpk.out]; rfl); go_wp2; go_roundw
        case rel => exact ⟨k + 1, A1, c1, by omega, by go_num, by rw [hrs.out], by rw [hrs.out]; exact hc1, by rw [hrs.out]; exact HR1, HL1⟩
        case measure => simp [intOf]; omega
      obtain ⟨p, q, r, rfl⟩ : ∃ p q r, P = [p, q, r] := by
        match P, h3 with
        | [p, q, r], _ => exact ⟨p, q, r, rfl⟩
      have hpk := Lib.hid (hp3.out p q r rfl)
      have hqz := hps q (by simp)
      clear hp3 hpo h3 hps
      obtain ⟨ap, rfl, hab, hat⟩ := hRP.2 (by simp)
      have y0 : w1.cell? ap = some (.string p) := by have := hat 0 _ rfl; simpa [Addr.add] using this
      have y1 : w1.cell? ⟨ap.block, ap.off + 1, none⟩ = some (.string q) := by have := hat 1 _ rfl; simpa [Addr.add] using this
      have y2 : w1.cell? ⟨ap.block, ap.off + 2, none⟩ = some (.string r) := by have := hat 2 _ rfl; simpa [Addr.add] using this
      clear hat hRP
      by_cases hp : p = fT
      case neg =>
        have hpn := lit_ne (l := [116, 101, 110, 97, 110, 116]) hp
        have hpk2 := Lib.hid (hpk.out.trans (if_neg (fun e => hp e.1)))
        have hrs : Hid (setK xs (k + 1) = L) := hro.out.trans (by rw [hpk2.out]; rfl); go_wp2; go_roundw
        case rel => exact ⟨k + 1, A1, c1, by omega, by go_num, by rw [hrs.out], by rw [hrs.out]; exact hc1, by rw [hrs.out]; exact HR1, HL1⟩
        case measure => simp [intOf]; omega
      by_cases hr : r = fS
      case neg =>
        have hrn := lit_ne (l := [115, 101, 99, 114, 101, 116]) hr
        have hpk2 := Lib.hid (hpk.out.trans (if_neg (fun e => hr e.2)))
        subst hp
        have hrs : Hid (setK xs (k + 1) = L) := hro.out.trans (by rw [hpk2.out]; rfl); go_wp2; go_roundw
        case rel => exact ⟨k + 1, A1, c1, by omega, by go_num, by rw [hrs.out], by rw [hrs.out]; exact hc1, by rw [hrs.out]; exact HR1, HL1⟩
        case measure => simp [intOf]; omega
      have hpk2 := Lib.hid (hpk.out.trans (if_pos ⟨hp, hr⟩))
      subst hp hr
      have HF := Lib.hid (HOf.out w1 q (HX.out.more_below HL1.out) (by omega))
      have hfl := Lib.hid (show [q].filter (isT xs) = if isT xs q then [q] else [] by cases h : isT xs q <;> simp [h])
      generalize isT xs q = tb at *
      generalize ofT xs q = tt at *
      obtain ⟨t0, t1, t2, t3, t4, t5⟩ := tt
      unfold Ten.cells at HF
      simp only at HF
      clear hpk
      go_wp2_with fail
      refine HF.out.mono ?_
      rintro e w2 ⟨rfl, hb⟩
      have c1w := (hb.cell (p := ⟨ap.block, ap.off + 1, none⟩) hab).trans y1
      have HR2 := Lib.hid (HR1.out.more_below hb)
      have HL2 := Lib.hid (HL1.out.trans (hb.mono hsz1))
      have hsz2 := HL2.out.size
      have hab2 : ap.block < w2.heap.size := Nat.lt_of_lt_of_le hab hb.size
      clear HF hb y0 y1 y2 HR1 HL1
      have hba := below_lit w2 (.cells #[.string t0, .string t1, .int .i64 t2, .int .i64 t3, .int .i64 t4, .int .i64 t5] 26)
      cases tb with
      | false =>
        have hpk3 := Lib.hid (show pk.filter (isT xs) = [] by rw [hpk2.out, hfl.out]; rfl)
        have HR3 := Lib.hid (HR2.out.more_below hba)
        have HL3 := Lib.hid (HL2.out.trans (hba.mono hsz2))
        clear hba
        have hrs : Hid (setK xs (k + 1) = L) := hro.out.trans (by rw [hpk3.out]; rfl); go_wp2; go_roundw
        case rel => exact ⟨k + 1, A1, c1, by omega, by go_num, by rw [hrs.out], by rw [hrs.out]; exact hc1, by rw [hrs.out]; exact HR3, HL3⟩
        case measure => simp [intOf]; omega
      | true =>
        have hpk3 := Lib.hid (show pk.filter (isT xs) = [q] by rw [hpk2.out, hfl.out]; rfl)
        have hput := Lib.hid (show setK xs (k + 1) = sets.put L q.data.toList by rw [hro.out, hpk3.out]; rfl)
        have c1x := (hba.cell (p := ⟨ap.block, ap.off + 1, none⟩) hab2).trans c1w
        have HR3 := Lib.hid (HR2.out.more_below hba)
        have HL3 := Lib.hid (HL2.out.trans (hba.mono hsz2))
        have hab3 : ap.block < (w2.alloc (.cells #[.string t0, .string t1, .int .i64 t2, .int .i64 t3, .int .i64 t4, .int .i64 t5] 26)).heap.size := Nat.lt_of_lt_of_le hab2 hba.size
        have hLl := strs_length L
        have HLl := Lib.hid hLl
        have hSame := Lib.hid (fun k h a b => @put_same L q.data.toList k h a b)
        have hNew := Lib.hid (fun k h a b c => @put_new L q.data.toList k h a b c)
        have hEnd := Lib.hid (@put_end L q.data.toList)
        clear hba hro hpk2 hpk3 hfl c1w HR2 HL2 hLl
        go_wp2_with fail
        generalize w2.alloc (.cells #[.string t0, .string t1, .int .i64 t2, .int .i64 t3, .int .i64 t4, .int .i64 t5] 26) = w3 at *
        have H1 : Hid (Reads w3 w3.heap.size 1 A1 (nm.strs L).length ((nm.strs L).flatMap tc)) := by rw [HLl.out]; exact HR3
        have hsz3 := HL3.out.size
        go_loopw [8] (fun iv wq => ∃ j : Nat, j ≤ L.length ∧ iv = .int .i64 j ∧ Hid (∀ i (_ : i < L.length), i < j → L[i] < q.data.toList) ∧ Hid (Below w3.heap.size w3 wq)) (fun iv _ => L.length - (intOf iv).toNat)
        case atStart => exact ⟨0, by omega, rfl, fun _ _ h => by omega, Below.refl _ _⟩
        case round =>
          obtain ⟨j, hj, rfl, hI, hq⟩ := hrel
          have hszq := hq.out.size
          have hlow := HL3.out.trans (hq.out.mono hsz3)
          have hszw := hlow.size
          have c1q := (hq.out.cell (p := ⟨ap.block, ap.off + 1, none⟩) hab3).trans c1x
          have hrd := H1.out.more_below hq.out
          by_cases hlj : j < L.length
          · have hlts : j < (nm.strs L).length := by rw [HLl.out]; exact hlj
            obtain ⟨al, hA, hal, x0⟩ := Reads.elem1 (g := Value.string) hrd hlts
            have hxd := strs_at hlts
            have hls := less_at (x := (nm.strs L)[j]) (s := q)
            rw [hxd] at hls
            by_cases hs : L[j] < q.data.toList
            · have hI2 : Hid (∀ i (_ : i < L.length), i < j + 1 → L[i] < q.data.toList) := fun i h hi => by
                by_cases e : i < j
                · exact hI.out i h e
                · have : i = j := by omega
                  subst this; exact hs
              rw [decide_eq_true hs] at hls
              clear hxd hs hI hrd
              generalize (nm.strs L)[j] = x at *
              subst hA
              go_wp2_with fail
              go_quiet (fail)
              have hq2 := Lib.hid (below_drewN hq.out nq)
              go_wp2
              go_roundw
              case rel => exact ⟨j + 1, by omega, by go_num, hI2, hq2⟩
              case measure => simp [intOf]; omega
            · rw [decide_eq_false hs] at hls
              have HXD := Lib.hid hxd
              have HS := Lib.hid hs
              clear hrd hxd hs
              subst hA
              generalize hX : (nm.strs L)[j] = x at *
              have HXx := Lib.hid hX
              clear hX
              go_wp2_with fail
              go_quiet (fail)
              have hq2 := Lib.hid (below_drewN hq.out nq)
              have hz2w := hq2.out.size
              have x0' : (wr.drewN nq).cell? (al.add j) = some (.string x) := ((below_drewN (Below.refl wr.heap.size wr) nq).cell (p := al.add j) (by rw [block_of_add]; exact hal)).trans x0
              have c1' := (hq2.out.cell (p := ⟨ap.block, ap.off + 1, none⟩) hab3).trans c1x
              have hal2 : al.block < (wr.drewN nq).heap.size := Nat.lt_of_lt_of_le hal (below_drewN (Below.refl wr.heap.size wr) nq).size
              clear x0 c1q hq hlow hszw hszq hal
              generalize wr.drewN nq = wq at *
              by_cases he : L[j] = q.data.toList
              · have hfin := Lib.hid (hput.out.trans (hSame.out j hlj hI.out he))
                have hxs : x = q := by
                  apply ByteArray.ext; apply Array.toList_inj.1; rw [HXD.out, he]
                subst hxs
                clear hI he hNew hEnd hSame
                go_wp2_with fail
                go_quiet (fail)
                have hq3 := Lib.hid (below_drewN hq2.out nq)
                have HRq := Lib.hid (HR3.out.more_below hq3.out)
                have HLq := Lib.hid (HL3.out.trans (hq3.out.mono hsz3))
                go_wp2
                go_roundw
                case rel => exact ⟨k + 1, some al, c1, by omega, by go_num, by rw [hfin.out], by rw [hfin.out]; exact hc1, by rw [hfin.out]; exact HRq, HLq⟩
                case measure => simp [intOf]; omega
              · have hfin := Lib.hid (hput.out.trans (hNew.out j hlj hI.out HS.out he))
                have hxs : x ≠ q := fun e => he (by rw [← HXD.out, e])
                have hqn := bytes_ne hxs
                clear hI he hxs hNew hEnd hSame HXD HS HXx
                go_wp2_with fail
                go_quiet (fail)
                have hq3 := Lib.hid (below_drewN hq2.out nq)
                have hz3w := hq3.out.size
                have c1z := (hq3.out.cell (p := ⟨ap.block, ap.off + 1, none⟩) hab3).trans c1x
                clear x0' c1' hq2 hz2w hal2
                generalize wq.drewN nq = wz at *
                have hlow := HL3.out.trans (hq3.out.mono hsz3)
                have hszw := hlow.size
                have hrd := H1.out.more_below hq3.out
                have htk := Lib.hid (Reads.take (f := tc) (size := 1) (fun _ => rfl) hrd (by rw [HLl.out]; omega : j ≤ (nm.strs L).length))
                have htl := Lib.hid (show ((nm.strs L).take j).length = j by rw [List.length_take, HLl.out]; omega)
                rw [htl.out] at htk
                have hdl := Lib.hid (show ((nm.strs L).drop j).length = L.length - j by rw [List.length_drop, HLl.out])
                have hdr := Reads.dropL (f := tc) (size := 1) (fun _ => rfl) H1.out (by rw [HLl.out]; omega : j ≤ (nm.strs L).length) (by rw [HLl.out]; exact hc1)
                rw [if_neg (by omega : ¬ c1 = j), Option.map_some, Nat.mul_one, HLl.out] at hdr
                have HD := Lib.hid hdr
                have hrow0 : Row wz w3.heap.size 9 1 tc (.slice none 0 0) [] := Row.nil _ _ _ _ _
                have hff : Hid ([] ++ (nm.strs L).take j ++ [q] ++ (nm.strs L).drop j = nm.strs (setK xs (k + 1))) := by
                  rw [hfin.out]; simp [nm.strs, Hid]
                clear hrd hdr hfin hput
                generalize (nm.strs L).take j = T1 at *
                generalize (nm.strs L).drop j = T2 at *
                have tok1 : True := trivial
                have tok2 : True := trivial
                have tok3 : True := trivial
                go_wp2_with (first
                  | (at_builtin; have _t := tok1; refine wpList_append_rowsN _ rfl _ _ 30 rfl w3.heap.size 9 i0 _ 1 16 Tryz.underlying30 hi0 hz0 hz1 hz2 rfl (by decide) _ _ rfl hrow0 _ _ j _ T1 htl.out rfl htk.out (fun y _ => one_T y) (by rw [htl.out]; unfold maxLen; simp; omega) (by rw [htl.out]; simp; omega) (by omega) ?_; intro v1 w4 hrow1 hgrow1; have hl1 := low_grown hq3.out (Nat.le_refl _) hz3w hrow0 hgrow1; have hzz1 := hl1.size; have hr1 := Lib.hid hrow1; have z1 := (hl1.cell (p := ⟨ap.block, ap.off + 1, none⟩) hab3).trans c1x; clear tok1 hgrow1 hrow1 hrow0 c1z)
                  | (at_builtin; have _t := tok2; refine wpList_append_row _ rfl _ _ 30 rfl w3.heap.size 9 i0 _ 1 16 Tryz.underlying30 hi0 hz0 hz1 hz2 rfl (by decide) _ _ rfl (hr1.out.alloc _) (fun _ => rfl) _ q rfl (cells_new _ _ (tc q)) (one_T _) (by rw [List.nil_append, htl.out]; unfold maxLen; omega) (by rw [List.nil_append, htl.out]; omega) (by simp; omega) ?_; intro v2 w5 hrow2 hgrow2; have hl2 := low_row hl1 hr1.out (Nat.le_refl _) hzz1 hgrow2; have hzz2 := hl2.size; have hr2 := Lib.hid hrow2; clear tok2 hgrow2 hrow2)
                  | (at_builtin; have _t := tok3; refine wpList_append_rowsN _ rfl _ _ 30 rfl w3.heap.size 9 i0 _ 1 16 Tryz.underlying30 hi0 hz0 hz1 hz2 rfl (by decide) _ _ rfl hr2.out _ _ (L.length - j) _ T2 hdl.out rfl (HD.out.below hl2) (fun y _ => one_T y) (by rw [hdl.out, List.nil_append, List.length_append, htl.out]; unfold maxLen; simp; omega) (by rw [hdl.out, List.nil_append, List.length_append, htl.out]; simp; omega) (by omega) ?_; intro v3 w6 hrow3 hgrow3; have hl3 := low_grown hl2 (Nat.le_refl _) hzz2 hr2.out hgrow3; clear tok3))
                rw [hff.out] at hrow3
                obtain ⟨A4, c4, rfl, hc4, hR4⟩ := hrow3.reads'
                rw [strs_length] at hc4 hR4
                have HLz := Lib.hid (HL3.out.trans (hl3.mono hsz3))
                have HR4 := Lib.hid hR4
                go_roundw
                case rel => exact ⟨k + 1, A4, c4, by omega, by go_num, by rw [strs_length], hc4, HR4, HLz⟩
                case measure => simp [intOf]; omega
          · have hkl : j = L.length := by omega
            subst hkl
            have hfin := Lib.hid (hput.out.trans (hEnd.out (fun i h => hI.out i h h)))
            have hkd : decide (L.length < L.length) = false := by simp
            clear hI hNew hEnd hSame hput hrd
            go_wp2_with fail
            go_quiet (fail)
            have hq2 := Lib.hid (below_drewN hq.out nq)
            clear c1q hq hlow hszw hszq
            generalize wr.drewN nq = wq at *
            go_wp2_with fail
            go_quiet (fail)
            have hq3 := Lib.hid (below_drewN hq2.out nq)
            have hz3w := hq3.out.size
            have c1z := (hq3.out.cell (p := ⟨ap.block, ap.off + 1, none⟩) hab3).trans c1x
            clear hq2
            generalize wq.drewN nq = wz at *
            have htk : Hid (Reads wz wz.heap.size 1 A1 L.length ((nm.strs L).flatMap tc)) := by
              have h := H1.out.more_below hq3.out
              rw [HLl.out] at h
              exact h
            have hrow0 : Row wz w3.heap.size 9 1 tc (.slice none 0 0) [] := Row.nil _ _ _ _ _
            have hff : Hid ([] ++ nm.strs L ++ [q] ++ [] = nm.strs (setK xs (k + 1))) := by
              rw [hfin.out]; simp [nm.strs, Hid]
            have htl := HLl
            clear hfin H1 hlj
            generalize nm.strs L = T1 at *
            by_cases hcap : c1 = L.length
            all_goals
              cases A1
              all_goals
                have tok1 : True := trivial
                have tok2 : True := trivial
                have tok3 : True := trivial
                go_wp2_with (first
                  | (at_builtin; have _t := tok1; refine wpList_append_rowsN _ rfl _ _ 30 rfl w3.heap.size 9 i0 _ 1 16 Tryz.underlying30 hi0 hz0 hz1 hz2 rfl (by decide) _ _ rfl hrow0 _ _ L.length _ T1 htl.out rfl htk.out (fun y _ => one_T y) (by rw [htl.out]; unfold maxLen; simp; omega) (by rw [htl.out]; simp; omega) (by omega) ?_; intro v1 w4 hrow1 hgrow1; have hl1 := low_grown hq3.out (Nat.le_refl _) hz3w hrow0 hgrow1; have hzz1 := hl1.size; have hr1 := Lib.hid hrow1; have z1 := (hl1.cell (p := ⟨ap.block, ap.off + 1, none⟩) hab3).trans c1x; clear tok1 hgrow1 hrow1 hrow0 c1z)
                  | (at_builtin; have _t := tok2; refine wpList_append_row _ rfl _ _ 30 rfl w3.heap.size 9 i0 _ 1 16 Tryz.underlying30 hi0 hz0 hz1 hz2 rfl (by decide) _ _ rfl (hr1.out.alloc _) (fun _ => rfl) _ q rfl (cells_new _ _ (tc q)) (one_T _) (by rw [List.nil_append, htl.out]; unfold maxLen; omega) (by rw [List.nil_append, htl.out]; omega) (by simp; omega) ?_; intro v2 w5 hrow2 hgrow2; have hl2 := low_row hl1 hr1.out (Nat.le_refl _) hzz1 hgrow2; have hzz2 := hl2.size; have hr2 := Lib.hid hrow2; clear tok2 hgrow2 hrow2)
                  | (at_builtin; have _t := tok3; refine wpList_append_rowsN _ rfl _ _ 30 rfl w3.heap.size 9 i0 _ 1 16 Tryz.underlying30 hi0 hz0 hz1 hz2 rfl (by decide) _ _ rfl hr2.out w.heap.size _ 0 _ [] rfl rfl ⟨by simp, fun h => absurd h (by omega)⟩ (fun y _ => one_T y) (by rw [List.nil_append, List.length_append, htl.out]; unfold maxLen; simp; omega) (by rw [List.nil_append, List.length_append, htl.out]; simp; omega) (by omega) ?_; intro v3 w6 hrow3 hgrow3; have hl3 := low_grown hl2 (Nat.le_refl _) hzz2 hr2.out hgrow3; clear tok3))
                rw [hff.out] at hrow3
                obtain ⟨A4, c4, rfl, hc4, hR4⟩ := hrow3.reads'
                rw [strs_length] at hc4 hR4
                have HLz := Lib.hid (HL3.out.trans (hl3.mono hsz3))
                have HR4 := Lib.hid hR4
                go_roundw
                case rel => exact ⟨k + 1, A4, c4, by omega, by go_num, by rw [strs_length], hc4, HR4, HLz⟩
                case measure => simp [intOf]; omega
    · have hkl : k = xs.length := by omega
      subst hkl
      rw [HG.out] at hR hc1
      go_wp2
      go_ret
      exact ⟨A1, c1, by rw [HG.out]; rfl, hc1, hR.out, hlow.out⟩
end Go.Proofs.YtjbompimlopdiaaGreatDoor.te
