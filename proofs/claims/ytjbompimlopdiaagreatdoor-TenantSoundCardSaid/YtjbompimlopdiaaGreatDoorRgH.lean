/- Entries of a registry with one more, by the reference. -/
import Derived.Test.YtjbompimlopdiaaGreatDoorRgG
import Derived.Test.YtjbompimlopdiaaGreatDoorKn
namespace Go.Proofs.YtjbompimlopdiaaGreatDoor.rgy
open Go.ChangeShapes Go.WideShapes Go.ChangeAt Go.RowKit Go.Proofs.Aid Go.Proofs.YtjbompimlopdiaaGreatDoor.name Go.Proofs.YtjbompimlopdiaaGreatDoor.reg
def pos (l : List En) (s : ByteArray) : Nat := (l.takeWhile fun e => lt e.key s).length
def putAt (l : List En) (x : En) (k : Nat) : List En := l.take k ++ (if h : k < l.length then (if l[k].key = x.key then ⟨x.key, l[k].reg.join x.reg⟩ :: l.drop (k + 1) else x :: l.drop k) else [x])
def putE (l : List En) (x : En) : List En := putAt l x (pos l x.key)
theorem tw_len {α : Type} (p : α → Bool) : ∀ (l : List α) (k : Nat), k ≤ l.length → (∀ j (_ : j < l.length), j < k → p l[j] = true) → (∀ h : k < l.length, p l[k] = false) → (l.takeWhile p).length = k
  | [], k, hk, _, _ => by simp at hk; subst hk; rfl
  | x :: l, 0, _, _, h0 => by
    have := h0 (by simp)
    simp at this
    simp [this]
  | x :: l, k + 1, hk, h1, h2 => by
    have hx := h1 0 (by simp) (by omega)
    simp at hx
    rw [List.takeWhile_cons, if_pos hx, List.length_cons, tw_len p l k (by simpa using hk) (fun j hj hjk => h1 (j + 1) (by simpa using hj) (by omega)) (fun h => h2 (by simpa using h))]
theorem pos_eq {l : List En} {s : ByteArray} {k : Nat} (hk : k ≤ l.length) (h1 : ∀ j (_ : j < l.length), j < k → lt l[j].key s = true) (h2 : ∀ h : k < l.length, lt l[k].key s = false) : pos l s = k := tw_len _ l k hk h1 h2
theorem put_end {l : List En} {x : En} (hp : pos l x.key = l.length) : putE l x = l ++ [x] := by
  unfold putE putAt; rw [hp, List.take_length, dif_neg (by omega)]
theorem put_same {l : List En} {x : En} {k : Nat} (hp : pos l x.key = k) (h : k < l.length) (he : l[k].key = x.key) : putE l x = l.take k ++ [⟨x.key, l[k].reg.join x.reg⟩] ++ l.drop (k + 1) := by
  unfold putE putAt; rw [hp, dif_pos h, if_pos he]; simp
theorem put_new {l : List En} {x : En} {k : Nat} (hp : pos l x.key = k) (h : k < l.length) (he : ¬ l[k].key = x.key) : putE l x = l.take k ++ [x] ++ l.drop k := by
  unfold putE putAt; rw [hp, dif_pos h, if_neg he]; simp
set_option maxRecDepth 100000 in
set_option maxHeartbeats 8000000 in
theorem rput_any (w : World) (A : Option Addr) (ca : Nat) (xs : List En) (x : En) (hl : xs.length ≤ 10000) (hc : xs.length ≤ ca) (h1 : Reads w w.heap.size 4 A xs.length (xs.flatMap En.cells)) :
    Calls Tryz.prog 45 #[.slice A xs.length ca, x.val] w (RowE w (putE xs x)) := by
  obtain ⟨i0, hi0, hz0, hz1, hz2⟩ := info_parts infoE
  have H1 := Lib.hid h1
  clear h1
  have hb0 := Lib.hid (Blk.new w 38 #[.string x.key, .int .i64 x.reg.n, .string x.reg.by_, .string x.reg.value])
  have hl0 := Lib.hid (below_lit w (.cells #[.string x.key, .int .i64 x.reg.n, .string x.reg.by_, .string x.reg.value] 38))
  have hend := Lib.hid (put_end (l := xs) (x := x))
  have hsame := Lib.hid (fun k => put_same (l := xs) (x := x) (k := k))
  have hnew := Lib.hid (fun k => put_new (l := xs) (x := x) (k := k))
  obtain ⟨kk, n, b, v⟩ := x
  simp only at hb0 hl0 hend hsame hnew
  show Calls Tryz.prog 45 #[.slice A xs.length ca, .agg #[.string kk, .int .i64 n, .string b, .string v]] w _
  go_enter Tryz.func45, Tryz.ntmps45
  go_wp2_with fail
  generalize w.alloc (.cells #[.string kk, .int .i64 n, .string b, .string v] 38) = w2 at *
  generalize hg : w.heap.size = g at hb0 hl0 ⊢
  have HG := Lib.hid hg
  clear hg
  go_loopw [5] (fun iv wr => ∃ k : Nat, k ≤ xs.length ∧ iv = .int .i64 k ∧ Hid (∀ j (_ : j < xs.length), j < k → lt xs[j].key kk = true) ∧ Hid (Blk wr g 38 #[.string kk, .int .i64 n, .string b, .string v]) ∧ Hid (Below g w wr)) (fun iv _ => xs.length - (intOf iv).toNat)
  case atStart => exact ⟨0, by omega, rfl, fun _ _ h => by omega, hb0, hl0⟩
  case round =>
    clear hb0 hl0
    obtain ⟨k, hk, rfl, hI, hb, hlow⟩ := hrel
    have d0 : wr.cell? ⟨g, 0, none⟩ = some (.string kk) := by rw [hb.out.cell]; rfl
    have hbN : ∀ n', Hid (Blk (World.drewN _ n') g 38 #[.string kk, .int .i64 n, .string b, .string v]) := fun n' => hb.out.drewN n'
    have hlN : ∀ n', Hid (Below g w (World.drewN _ n')) := fun n' => below_drewN hlow.out n'
    by_cases hlt : k < xs.length
    · obtain ⟨ad, rfl, had, c0, c1, c2, c3⟩ := elemE (H1.out.below (by rw [HG.out]; exact hlow.out)) hlt
      have hI2 : Hid (lt xs[k].key kk = true → ∀ j (_ : j < xs.length), j < k + 1 → lt xs[j].key kk = true) := fun h j hj hjk => by
        by_cases e : j < k
        · exact hI.out j hj e
        · have : j = k := by omega
          subst this; exact h
      have hpos : Hid (lt xs[k].key kk = false → pos xs kk = k) := fun h => pos_eq (by omega) hI.out (fun _ => h)
      have hsame2 := Lib.hid (fun h => hsame.out k h hlt)
      have hnew2 := Lib.hid (fun h => hnew.out k h hlt)
      generalize hxe : xs[k] = xe at *
      have HXE := Lib.hid hxe
      clear hxe
      obtain ⟨ek, en, eb, ev⟩ := xe
      simp only at c0 c1 c2 c3 hI2 hpos hsame2 hnew2
      cases hlt2 : lt ek kk with
      | true =>
        have hN := Lib.hid (hI2.out hlt2)
        have hbl : Op.bytesLess ek.toList kk.toList = true := hlt2
        clear hlt2 hI2 hI hpos hsame2 hnew2
        go_wp2_with fail
        go_quiet (fail)
        go_wp2
        go_roundw
        case rel => exact ⟨k + 1, by omega, by go_num, hN, hbN _, hlN _⟩
        case measure => simp [intOf]; omega
      | false =>
        have hN := Lib.hid (hpos.out hlt2)
        have hbl : Op.bytesLess ek.toList kk.toList = false := hlt2
        clear hlt2 hI2 hI hpos
        have hcN : ∀ n', (World.drewN wr n').cell? (ad.add (k * 4)) = some (.string ek) ∧ (World.drewN wr n').cell? ⟨(ad.add (k * 4)).block, (ad.add (k * 4)).off + 1, none⟩ = some (.int .i64 en) ∧ (World.drewN wr n').cell? ⟨(ad.add (k * 4)).block, (ad.add (k * 4)).off + 2, none⟩ = some (.string eb) ∧ (World.drewN wr n').cell? ⟨(ad.add (k * 4)).block, (ad.add (k * 4)).off + 3, none⟩ = some (.string ev) := fun _ => ⟨c0, c1, c2, c3⟩
        have hrN : ∀ n', Reads (World.drewN wr n') g 4 (some ad) xs.length (xs.flatMap En.cells) := fun n' => by
          have h := H1.out.below (by rw [HG.out]; exact hlow.out : Below w.heap.size w wr)
          rw [HG.out] at h
          exact h.drewN n'
        by_cases he : ek = kk
        · have hfin := Lib.hid (hsame2.out hN.out he)
          subst he
          clear hsame2 hnew2
          go_wp2_with fail
          go_quiet (fail)
          have hbz := Lib.hid (hbN nq).out
          have hlz := (hlN nq).out
          obtain ⟨c0, c1, c2, c3⟩ := hcN nq
          have hrz := hrN nq
          have had' : ad.block < g := by rw [← HG.out]; exact had
          clear hbN hlN hcN hrN hb hlow H1 d0 hsame hnew hend
          generalize wr.drewN nq = wz at *
          have htk := Lib.hid (Reads.take En.len hrz (by omega : k ≤ xs.length))
          have htl := Lib.hid (show (xs.take k).length = k by rw [List.length_take]; omega)
          rw [htl.out] at htk
          have hsz := hbz.out.lt
          have hrow0 : Row wz (g + 1) 38 4 En.cells (.slice none 0 0) [] := Row.nil _ _ _ _ _
          have hdl := Lib.hid (show (xs.drop (k + 1)).length = xs.length - (k + 1) from List.length_drop)
          have hdr0 := Lib.hid (Reads.dropL En.len hrz (by omega : k + 1 ≤ xs.length) hc)
          clear hrz
          generalize xs.take k = T1 at *
          generalize xs.drop (k + 1) = T2 at *
          go_wp2_with (at_builtin; refine wpList_append_rowsN _ rfl _ _ 22 rfl (g + 1) 38 i0 _ 4 56 Tryz.underlying22 hi0 hz0 ‹_› hz2 rfl (by decide) _ _ rfl hrow0 _ _ k _ T1 htl.out rfl htk.out (fun y _ => one_E y) (by rw [htl.out]; unfold maxLen; simp; omega) (by rw [htl.out]; simp; omega) (by omega) ?_; intro v1 w1 hrow1 hgrow1)
          have hl1 : Below (g + 1) wz w1 := low_grown (Below.refl _ _) (Nat.le_refl _) (by omega) hrow0 hgrow1
          have hz1 := hl1.size
          have hq1 : w1.cell? (ad.add (k * 4)) = some (.string ek) ∧ w1.cell? ⟨(ad.add (k * 4)).block, (ad.add (k * 4)).off + 1, none⟩ = some (.int .i64 en) ∧ w1.cell? ⟨(ad.add (k * 4)).block, (ad.add (k * 4)).off + 2, none⟩ = some (.string eb) ∧ w1.cell? ⟨(ad.add (k * 4)).block, (ad.add (k * 4)).off + 3, none⟩ = some (.string ev) := by
            have hbk : (ad.add (k * 4)).block < g + 1 := by rw [block_of_add]; omega
            exact ⟨(hl1.cell (p := (ad.add (k * 4))) hbk).trans c0, (hl1.cell (p := ⟨(ad.add (k * 4)).block, (ad.add (k * 4)).off + 1, none⟩) hbk).trans c1, (hl1.cell (p := ⟨(ad.add (k * 4)).block, (ad.add (k * 4)).off + 2, none⟩) hbk).trans c2, (hl1.cell (p := ⟨(ad.add (k * 4)).block, (ad.add (k * 4)).off + 3, none⟩) hbk).trans c3⟩
          have hb1 := Lib.hid (hbz.out.below hl1 (by omega))
          have hlw1 := Lib.hid (hlz.trans (hl1.mono (by omega)))
          have hr1 := Lib.hid hrow1
          have htk1 := Lib.hid (hdr0.out.below (hl1.mono (by omega)))
          clear hgrow1 hrow1 hrow0 hl1 htk hdr0 hbz hlz c0 c1 c2 c3
          obtain ⟨c0, c1, c2, c3⟩ := hq1
          have hkd : decide (k < xs.length) = true := by simp; omega
          have d0 : w1.cell? ⟨g, 0, none⟩ = some (.string ek) := by rw [hb1.out.cell]; rfl
          have hcN : ∀ n', (World.drewN w1 n').cell? (ad.add (k * 4)) = some (.string ek) ∧ (World.drewN w1 n').cell? ⟨(ad.add (k * 4)).block, (ad.add (k * 4)).off + 1, none⟩ = some (.int .i64 en) ∧ (World.drewN w1 n').cell? ⟨(ad.add (k * 4)).block, (ad.add (k * 4)).off + 2, none⟩ = some (.string eb) ∧ (World.drewN w1 n').cell? ⟨(ad.add (k * 4)).block, (ad.add (k * 4)).off + 3, none⟩ = some (.string ev) := fun _ => ⟨c0, c1, c2, c3⟩
          have hbN : ∀ n', Hid (Blk (World.drewN w1 n') g 38 #[.string ek, .int .i64 n, .string b, .string v]) := fun n' => hb1.out.drewN n'
          have hlN : ∀ n', Hid (Below g w (World.drewN w1 n')) := fun n' => below_drewN hlw1.out n'
          have hrN : ∀ n', Hid (Row (World.drewN w1 n') (g + 1) 38 4 En.cells v1 ([] ++ T1)) := fun n' => hr1.out.drewN n'
          have hdN : ∀ n', Hid (Reads (World.drewN w1 n') g 4 (if ca = k + 1 then some ad else (some ad).map (·.add ((k + 1) * 4))) (xs.length - (k + 1)) (T2.flatMap En.cells)) := fun n' => htk1.out.drewN n'
          go_quiet (fail)
          have hb2 := hbN nq
          have hl2 := hlN nq
          have hr2 := hrN nq
          have hd2 := hdN nq
          obtain ⟨c0, c1, c2, c3⟩ := hcN nq
          have hz2 : g < (w1.drewN nq).heap.size := by simp; omega
          clear hbN hlN hrN hdN hcN hb1 hlw1 hr1 htk1 d0
          generalize w1.drewN nq = w2 at *
          have hbk : (ad.add (k * 4)).block < g + 1 := by rw [block_of_add]; omega
          have hg1 : g < g + 1 := by omega
          have test := Kn.drew_7 (Kn.new_7 (w0 := w2) (M := g + 1) (p0 := ⟨g, 0, none⟩) (p1 := ⟨g, 1, none⟩) (p2 := ⟨g, 2, none⟩) (p3 := ⟨g, 3, none⟩) (v0 := .string ek) (v1 := .int .i64 n) (v2 := .string b) (v3 := .string v) hz2 (by rw [hb2.out.cell]; rfl) hg1 (by rw [hb2.out.cell]; rfl) hg1 (by rw [hb2.out.cell]; rfl) hg1 (by rw [hb2.out.cell]; rfl) hg1 c1 hbk c2 hbk c3 hbk)
          generalize hj : Rg.join ⟨en, eb, ev⟩ ⟨n, b, v⟩ = jr at hfin
          have HJ := Lib.hid hj
          obtain ⟨jn, jb, jv⟩ := jr
          have htl2 := Lib.hid (show T1.length = k from htl.out)
          clear hj c0 c1 c2 c3
          go_wp2_with fail
          refine wp_region_held_drew (S := (fun w' => w'.cell? (⟨g, 0, none⟩) = some (.string ek) ∧ w'.cell? (⟨g, 1, none⟩) = some (.int .i64 n) ∧ w'.cell? (⟨g, 2, none⟩) = some (.string b) ∧ w'.cell? (⟨g, 3, none⟩) = some (.string v) ∧ w'.cell? (⟨(ad.add (k * 4)).block, (ad.add (k * 4)).off + 1, none⟩) = some (.int .i64 en) ∧ w'.cell? (⟨(ad.add (k * 4)).block, (ad.add (k * 4)).off + 2, none⟩) = some (.string eb) ∧ w'.cell? (⟨(ad.add (k * 4)).block, (ad.add (k * 4)).off + 3, none⟩) = some (.string ev) ∧ Hid (Kn (g + 1) (w2) [(⟨g, 0, none⟩, .string ek), (⟨g, 1, none⟩, .int .i64 n), (⟨g, 2, none⟩, .string b), (⟨g, 3, none⟩, .string v), (⟨(ad.add (k * 4)).block, (ad.add (k * 4)).off + 1, none⟩, .int .i64 en), (⟨(ad.add (k * 4)).block, (ad.add (k * 4)).off + 2, none⟩, .string eb), (⟨(ad.add (k * 4)).block, (ad.add (k * 4)).off + 3, none⟩, .string ev)] w'))) (by kernel_rfl) ?_ (fun hHeldp0 => ?_)
          · exact test
          refine wpAnyH_take (i := 0) (v := ?vp0) ops0 (by kernel_rfl) (by kernel_rfl) (by kernel_rfl) (fun _ _ _ h => h) (Or.inl ⟨by rfl, ?yp0⟩) hHeldp0 ?_
          case yp0 => (intro w hSw; (try dsimp only at hSw); go_simp; try (with_reducible rfl))
          try simp only [Act.put, List.setIfInBounds_toArray, List.set_cons_zero, List.set_cons_succ]
          refine wpAnyH_take (i := 1) (v := ?vp1) (opsS ops0) (by kernel_rfl) (by kernel_rfl) (by kernel_rfl) (fun _ _ _ h => h) (Or.inl ⟨by rfl, ?yp1⟩) hHeldp0 ?_
          case yp1 => (intro w hSw; (try dsimp only at hSw); go_simp; try (with_reducible rfl))
          try simp only [Act.put, List.setIfInBounds_toArray, List.set_cons_zero, List.set_cons_succ]
          refine wpAnyH_take (i := 2) (v := ?vp2) (opsS (opsS ops0)) (by kernel_rfl) (by kernel_rfl) (by kernel_rfl) (fun _ _ _ h => h) (Or.inl ⟨by rfl, ?yp2⟩) hHeldp0 ?_
          case yp2 => (intro w hSw; (try dsimp only at hSw); go_simp; try (with_reducible rfl))
          try simp only [Act.put, List.setIfInBounds_toArray, List.set_cons_zero, List.set_cons_succ]
          refine wpAnyH_take (i := 3) (v := ?vp3) (opsS (opsS (opsS ops0))) (by kernel_rfl) (by kernel_rfl) (by kernel_rfl) (fun _ _ _ h => h) (Or.inl ⟨by rfl, ?yp3⟩) hHeldp0 ?_
          case yp3 => (intro w hSw; (try dsimp only at hSw); go_simp; try (with_reducible rfl))
          try simp only [Act.put, List.setIfInBounds_toArray, List.set_cons_zero, List.set_cons_succ]
          refine wpAnyH_take (i := 4) (v := ?vp4) (opsS (opsS (opsS (opsS ops0)))) (by kernel_rfl) (by kernel_rfl) (by kernel_rfl) (fun _ _ _ h => h) (Or.inl ⟨by rfl, ?yp4⟩) hHeldp0 ?_
          case yp4 => (intro w hSw; (try dsimp only at hSw); go_simp; try (with_reducible rfl))
          try simp only [Act.put, List.setIfInBounds_toArray, List.set_cons_zero, List.set_cons_succ]
          refine wpAnyH_take (i := 5) (v := ?vp5) (opsS (opsS (opsS (opsS (opsS ops0))))) (by kernel_rfl) (by kernel_rfl) (by kernel_rfl) (fun _ _ _ h => h) (Or.inl ⟨by rfl, ?yp5⟩) hHeldp0 ?_
          case yp5 => (intro w hSw; (try dsimp only at hSw); go_simp; try (with_reducible rfl))
          try simp only [Act.put, List.setIfInBounds_toArray, List.set_cons_zero, List.set_cons_succ]
          refine wpAnyH_take (i := 6) (v := ?vp6) (opsS (opsS (opsS (opsS (opsS (opsS ops0)))))) (by kernel_rfl) (by kernel_rfl) (by kernel_rfl) (fun _ _ _ h => h) (Or.inl ⟨by rfl, ?yp6⟩) hHeldp0 ?_
          case yp6 => (intro w hSw; (try dsimp only at hSw); go_simp; try (with_reducible rfl))
          try simp only [Act.put, List.setIfInBounds_toArray, List.set_cons_zero, List.set_cons_succ]
          refine wpAnyH_take (i := 7) (v := ?vp7) (opsS (opsS (opsS (opsS (opsS (opsS (opsS ops0))))))) (by kernel_rfl) (by kernel_rfl) (by kernel_rfl) (fun _ _ _ h => h) (Or.inl ⟨by rfl, ?yp7⟩) hHeldp0 ?_
          case yp7 => (intro w hSw; (try dsimp only at hSw); go_simp; try (with_reducible rfl))
          try simp only [Act.put, List.setIfInBounds_toArray, List.set_cons_zero, List.set_cons_succ]
          refine wpAnyH_take (i := 8) (v := ?vp8) (opsS (opsS (opsS (opsS (opsS (opsS (opsS (opsS ops0)))))))) (by kernel_rfl) (by kernel_rfl) (by kernel_rfl) (fun _ _ _ h => h) (Or.inl ⟨by rfl, ?yp8⟩) hHeldp0 ?_
          case yp8 => (intro w hSw; (try dsimp only at hSw); go_simp; try (with_reducible rfl))
          try simp only [Act.put, List.setIfInBounds_toArray, List.set_cons_zero, List.set_cons_succ]
          refine wpAnyH_take (i := 9) (v := ?vp9) (opsS (opsS (opsS (opsS (opsS (opsS (opsS (opsS (opsS ops0))))))))) (by kernel_rfl) (by kernel_rfl) (by kernel_rfl) (fun _ _ _ h => h) (Or.inl ⟨by rfl, ?yp9⟩) hHeldp0 ?_
          case yp9 => (intro w hSw; (try dsimp only at hSw); go_simp; try (with_reducible rfl))
          try simp only [Act.put, List.setIfInBounds_toArray, List.set_cons_zero, List.set_cons_succ]
          refine wpAnyH_ready (rs := [10]) (by kernel_rfl) (by simp) ?_
          refine AllReadyH.cons (opsS (opsS (opsS (opsS (opsS (opsS (opsS (opsS (opsS (opsS ops0)))))))))) (fun K hK => ?_) AllReadyH.nil
          go_simp
          refine (rjoin_any ⟨en, eb, ev⟩ ⟨n, b, v⟩ _).mono ?_; rw [HJ.out]; rintro e w' ⟨rfl, hb⟩; have hbx := Lib.hid hb
          try dsimp only
          refine hK.out _ _ ?_ (fun hHeldp1 => ?_)
          · (first | assumption | exact Kn.drew_7 (by assumption) | (go_split_ands; exact Kn.drew_7 (by assumption)) | (go_split_ands; exact Kn.step_7 (by assumption) (by assumption)) | (go_split_ands; exact Kn.alloc_7 (by assumption) _) | (go_split_ands; exact Kn.far_7 (by assumption) (by assumption)))
          clear hK K hHeldp0
          try clear hb
          try simp only [Act.put, List.setIfInBounds_toArray, List.set_cons_zero, List.set_cons_succ]
          refine wpAnyH_take (i := 11) (v := ?vp11) (opsS (opsS (opsS (opsS (opsS (opsS (opsS (opsS (opsS (opsS (opsS ops0))))))))))) (by kernel_rfl) (by kernel_rfl) (by kernel_rfl) (fun _ _ _ h => h) (Or.inl ⟨by rfl, ?yp11⟩) hHeldp1 ?_
          case yp11 => (intro w hSw; (try dsimp only at hSw); go_simp; try (with_reducible rfl))
          try simp only [Act.put, List.setIfInBounds_toArray, List.set_cons_zero, List.set_cons_succ]
          refine wpAnyH_ready (rs := [12]) (by kernel_rfl) (by simp) ?_
          refine AllReadyH.cons (opsS (opsS (opsS (opsS (opsS (opsS (opsS (opsS (opsS (opsS (opsS (opsS ops0)))))))))))) (fun K hK => ?_) AllReadyH.nil
          go_simp
          skip
          try dsimp only
          refine hK.out _ _ ?_ (fun hHeldp2 => ?_)
          · (first | assumption | exact Kn.drew_7 (by assumption) | (go_split_ands; exact Kn.drew_7 (by assumption)) | (go_split_ands; exact Kn.step_7 (by assumption) (by assumption)) | (go_split_ands; exact Kn.alloc_7 (by assumption) _) | (go_split_ands; exact Kn.far_7 (by assumption) (by assumption)))
          clear hK K hHeldp1
          try clear hb
          try simp only [Act.put, List.setIfInBounds_toArray, List.set_cons_zero, List.set_cons_succ]
          refine wpAnyH_ready (rs := [13]) (by kernel_rfl) (by simp) ?_
          refine AllReadyH.cons (opsS (opsS (opsS (opsS (opsS (opsS (opsS (opsS (opsS (opsS (opsS (opsS (opsS ops0))))))))))))) (fun K hK => ?_) AllReadyH.nil
          refine step_append_row _ rfl _ _ 22 rfl (g + 1) 38 i0 _ 4 56 Tryz.underlying22 hi0 hz0 ‹i0.size = 4› ‹i0.bytes = 56› rfl (by decide) _ _ rfl ((hr2.out.drew.below hbx.out).alloc _) En.len _ ⟨ek, jn, jb, jv⟩ rfl (cells_new _ _ _) (one_E _) (by simp) (by rw [List.nil_append, htl2.out]; unfold maxLen; omega) (by rw [List.nil_append, htl2.out]; omega) (by have := hbx.out.size; simp at this ⊢; omega) ?_; intro v3 w3 hrow3 hgrow3; have hl3 : Below (g + 1) w2 w3 := low_grown (hHeldp2.2.2.2.2.2.2.2.low) (Nat.le_refl _) (by have := hbx.out.size; simp at this ⊢; omega) ((hr2.out.drew.below hbx.out).alloc _) hgrow3
          try dsimp only
          refine hK.out _ _ ?_ (fun hHeldp3 => ?_)
          · (first | assumption | exact Kn.drew_7 (by assumption) | (go_split_ands; exact Kn.drew_7 (by assumption)) | (go_split_ands; exact Kn.step_7 (by assumption) (by assumption)) | (go_split_ands; exact Kn.alloc_7 (by assumption) _) | (go_split_ands; exact Kn.far_7 (by assumption) (by assumption)))
          clear hK K hHeldp2
          try clear hb
          try simp only [Act.put, List.setIfInBounds_toArray, List.set_cons_zero, List.set_cons_succ]
          refine wpAnyH_take (i := 14) (v := ?vp14) (opsS (opsS (opsS (opsS (opsS (opsS (opsS (opsS (opsS (opsS (opsS (opsS (opsS (opsS ops0)))))))))))))) (by kernel_rfl) (by kernel_rfl) (by kernel_rfl) (fun _ _ _ h => h) (Or.inl ⟨by rfl, ?yp14⟩) hHeldp3 ?_
          case yp14 => (intro w hSw; (try dsimp only at hSw); go_simp; try (with_reducible rfl))
          try simp only [Act.put, List.setIfInBounds_toArray, List.set_cons_zero, List.set_cons_succ]
          refine wpAnyH_done (by kernel_rfl) ?_ _
          have hd3 := hd2.out.below (hl3.mono (by omega))
          have hlw3 := Lib.hid (hl2.out.trans (hl3.mono (by omega)))
          have hz3 := hl3.size
          have hr3 := Lib.hid hrow3
          have htl3 := Lib.hid (show ([] ++ T1 ++ [(⟨ek, jn, jb, jv⟩ : En)]).length = k + 1 by rw [List.nil_append, List.length_append, htl2.out]; rfl)
          have hff := Lib.hid (show [] ++ T1 ++ [(⟨ek, jn, jb, jv⟩ : En)] ++ T2 = putE xs ⟨ek, n, b, v⟩ by rw [hfin.out, List.nil_append])
          clear hgrow3 hrow3 hl3 hd2 hl2 hr2 hb2 test hHeldp3 hbx hfin HJ htl2
          generalize [] ++ T1 ++ [(⟨ek, jn, jb, jv⟩ : En)] = T3 at *
          have hz4 : g < w3.heap.size := by omega
          clear hz3 hz2
          by_cases hcap : ca = k + 1
          all_goals
            first | rw [if_pos hcap] at hd3 | rw [if_neg hcap, Option.map_some] at hd3
            have HD3 := Lib.hid hd3
            clear hd3
            go_wp2_with (at_builtin; refine wpList_append_rowsN _ rfl _ _ 22 rfl (g + 1) 38 i0 _ 4 56 Tryz.underlying22 hi0 hz0 ‹i0.size = 4› ‹i0.bytes = 56› rfl (by decide) _ _ rfl hr3.out _ _ (xs.length - (k + 1)) _ T2 hdl.out rfl HD3.out (fun y _ => one_E y) (by rw [hdl.out, htl3.out]; unfold maxLen; omega) (by rw [hdl.out, htl3.out]; omega) (by omega) ?_; intro v4 w4 hrow4 hgrow4)
            have hl4 : Below g w w4 := low_grown hlw3.out (by omega) (by omega) hr3.out hgrow4
            rw [hff.out] at hrow4
            clear hgrow4
            go_wp2
            go_ret
            exact ⟨_, rfl, hrow4.more (by rw [HG.out]; omega), by rw [HG.out]; exact hl4⟩
        · have hfin := Lib.hid (hnew2.out hN.out he)
          have hne := bytes_ne he
          clear hsame2 hnew2 he
          go_wp2_with fail
          go_quiet (fail)
          have hbz := Lib.hid (hbN nq).out
          have hlz := (hlN nq).out
          obtain ⟨c0, -, -, -⟩ := hcN nq
          have hrz := hrN nq
          have had' : ad.block < g := by rw [← HG.out]; exact had
          clear hbN hlN hcN hrN hb hlow H1 d0 hsame hnew hend c1 c2 c3
          generalize wr.drewN nq = wz at *
          have htk := Lib.hid (Reads.take En.len hrz (by omega : k ≤ xs.length))
          have htl := Lib.hid (show (xs.take k).length = k by rw [List.length_take]; omega)
          rw [htl.out] at htk
          have hsz := hbz.out.lt
          have hrow0 : Row wz (g + 1) 38 4 En.cells (.slice none 0 0) [] := Row.nil _ _ _ _ _
          have hdl := Lib.hid (show (xs.drop k).length = xs.length - k from List.length_drop)
          have hdr0 := Lib.hid (Reads.dropL En.len hrz (by omega : k ≤ xs.length) hc)
          clear hrz
          generalize xs.take k = T1 at *
          generalize xs.drop k = T2 at *
          go_wp2_with (at_builtin; refine wpList_append_rowsN _ rfl _ _ 22 rfl (g + 1) 38 i0 _ 4 56 Tryz.underlying22 hi0 hz0 ‹_› hz2 rfl (by decide) _ _ rfl hrow0 _ _ k _ T1 htl.out rfl htk.out (fun y _ => one_E y) (by rw [htl.out]; unfold maxLen; simp; omega) (by rw [htl.out]; simp; omega) (by omega) ?_; intro v1 w1 hrow1 hgrow1)
          have hl1 : Below (g + 1) wz w1 := low_grown (Below.refl _ _) (Nat.le_refl _) (by omega) hrow0 hgrow1
          have hz1 := hl1.size
          have hq1 : w1.cell? (ad.add (k * 4)) = some (.string ek) := by
            have hbk : (ad.add (k * 4)).block < g + 1 := by rw [block_of_add]; omega
            exact (hl1.cell (p := (ad.add (k * 4))) hbk).trans c0
          have hb1 := Lib.hid (hbz.out.below hl1 (by omega))
          have hlw1 := Lib.hid (hlz.trans (hl1.mono (by omega)))
          have hr1 := Lib.hid hrow1
          have htk1 := Lib.hid (hdr0.out.below (hl1.mono (by omega)))
          clear hgrow1 hrow1 hrow0 hl1 htk hdr0 hbz hlz c0
          have hkd : decide (k < xs.length) = true := by simp; omega
          have d0 : w1.cell? ⟨g, 0, none⟩ = some (.string kk) := by rw [hb1.out.cell]; rfl
          have hbN : ∀ n', Hid (Blk (World.drewN w1 n') g 38 #[.string kk, .int .i64 n, .string b, .string v]) := fun n' => hb1.out.drewN n'
          have hlN : ∀ n', Hid (Below g w (World.drewN w1 n')) := fun n' => below_drewN hlw1.out n'
          have hrN : ∀ n', Hid (Row (World.drewN w1 n') (g + 1) 38 4 En.cells v1 ([] ++ T1)) := fun n' => hr1.out.drewN n'
          have hdN : ∀ n', Hid (Reads (World.drewN w1 n') g 4 (if ca = k then some ad else (some ad).map (·.add (k * 4))) (xs.length - k) (T2.flatMap En.cells)) := fun n' => htk1.out.drewN n'
          go_quiet (fail)
          have hb2 := (hbN nq).out
          have hl2 := hlN nq
          have hr2 := hrN nq
          have hd2 := (hdN nq).out
          have hz2 : g < (w1.drewN nq).heap.size := by simp; omega
          clear hbN hlN hrN hdN hb1 hlw1 hr1 htk1 d0 hq1
          generalize w1.drewN nq = w2 at *
          have d0 : w2.cell? ⟨g, 0, none⟩ = some (.string kk) := by rw [hb2.cell]; rfl
          have d1 : w2.cell? ⟨g, 1, none⟩ = some (.int .i64 n) := by rw [hb2.cell]; rfl
          have d2 : w2.cell? ⟨g, 2, none⟩ = some (.string b) := by rw [hb2.cell]; rfl
          have d3 : w2.cell? ⟨g, 3, none⟩ = some (.string v) := by rw [hb2.cell]; rfl
          clear hb2
          by_cases hcap : ca = k
          · exfalso; omega
          · rw [if_neg hcap, Option.map_some] at hd2
            have HD2 := Lib.hid hd2
            clear hd2
            have tok1 : True := trivial
            have tok2 : True := trivial
            go_wp2_with (first
              | (at_builtin; have _t := tok1; refine wpList_append_row _ rfl _ _ 22 rfl (g + 1) 38 i0 _ 4 56 Tryz.underlying22 hi0 hz0 ‹i0.size = 4› ‹i0.bytes = 56› rfl (by decide) _ _ rfl (hr2.out.alloc _) En.len _ ⟨kk, n, b, v⟩ rfl (cells_new _ _ _) (one_E _) (by rw [List.nil_append, htl.out]; unfold maxLen; omega) (by rw [List.nil_append, htl.out]; omega) (by simp; omega) ?_; intro v3 w3 hrow3 hgrow3; have hl3 : Below (g + 1) w2 w3 := low_grown ((Below.refl _ _).alloc (by omega) _) (Nat.le_refl _) (by simp; omega) (hr2.out.alloc _) hgrow3; have hd3 := Lib.hid (HD2.out.below (hl3.mono (by omega))); have hlw3 := Lib.hid (hl2.out.trans (hl3.mono (by omega))); have hz3 := hl3.size; have hr3 := Lib.hid hrow3; have htl3 := Lib.hid (show ([] ++ T1 ++ [(⟨kk, n, b, v⟩ : En)]).length = k + 1 by rw [List.nil_append, List.length_append, htl.out]; rfl); have hff := Lib.hid (show [] ++ T1 ++ [(⟨kk, n, b, v⟩ : En)] ++ T2 = putE xs ⟨kk, n, b, v⟩ by rw [hfin.out, List.nil_append]); clear hgrow3 hrow3 hl3 HD2 hl2 hr2 hfin d0 d1 d2 d3; generalize [] ++ T1 ++ [(⟨kk, n, b, v⟩ : En)] = T3 at *; have hz4 : g < w3.heap.size := (by omega); clear hz3 hz2 tok1)
              | (at_builtin; have _t := tok2; refine wpList_append_rowsN _ rfl _ _ 22 rfl (g + 1) 38 i0 _ 4 56 Tryz.underlying22 hi0 hz0 ‹i0.size = 4› ‹i0.bytes = 56› rfl (by decide) _ _ rfl hr3.out _ _ (xs.length - k) _ T2 hdl.out rfl hd3.out (fun y _ => one_E y) (by rw [hdl.out, htl3.out]; unfold maxLen; omega) (by rw [hdl.out, htl3.out]; omega) (by omega) ?_; intro v4 w4 hrow4 hgrow4; clear tok2))
            have hl4 : Below g w w4 := low_grown hlw3.out (by omega) (by omega) hr3.out hgrow4
            rw [hff.out] at hrow4
            clear hgrow4
            go_wp2
            go_ret
            exact ⟨_, rfl, hrow4.more (by rw [HG.out]; omega), by rw [HG.out]; exact hl4⟩
    · have hkl : k = xs.length := by omega
      subst hkl
      have hp : pos xs kk = xs.length := pos_eq (Nat.le_refl _) hI.out (fun h => absurd h (Nat.lt_irrefl _))
      have hfin := Lib.hid (hend.out hp)
      have hrN : ∀ n', Reads (World.drewN wr n') g 4 A xs.length (xs.flatMap En.cells) := fun n' => by
        have h := H1.out.below (by rw [HG.out]; exact hlow.out : Below w.heap.size w wr)
        rw [HG.out] at h
        exact h.drewN n'
      clear hI hp hsame hnew hend
      go_wp2_with fail
      go_quiet (fail)
      have hbz := Lib.hid (hbN nq).out
      have hlz := (hlN nq).out
      have hrz := hrN nq
      clear hbN hlN hrN hb hlow H1 d0
      generalize wr.drewN nq = wz at *
      have htk := Lib.hid hrz
      have hsz := hbz.out.lt
      have hrow0 : Row wz (g + 1) 38 4 En.cells (.slice none 0 0) [] := Row.nil _ _ _ _ _
      clear hrz
      go_wp2_with (at_builtin; refine wpList_append_rowsN _ rfl _ _ 22 rfl (g + 1) 38 i0 _ 4 56 Tryz.underlying22 hi0 hz0 ‹_› hz2 rfl (by decide) _ _ rfl hrow0 _ _ xs.length _ xs rfl rfl htk.out (fun y _ => one_E y) (by unfold maxLen; simp; omega) (by simp; omega) (by omega) ?_; intro v1 w1 hrow1 hgrow1)
      have hl1 : Below (g + 1) wz w1 := low_grown (Below.refl _ _) (Nat.le_refl _) (by omega) hrow0 hgrow1
      have hz1 := hl1.size
      have hb1 := Lib.hid (hbz.out.below hl1 (by omega))
      have hlw1 := Lib.hid (hlz.trans (hl1.mono (by omega)))
      have hr1 := Lib.hid hrow1
      have htk1 := Lib.hid (htk.out.below (hl1.mono (by omega)))
      clear hgrow1 hrow1 hrow0 hl1 htk hbz hlz
      have hkd : decide (xs.length < xs.length) = false := by simp
      have d0 : w1.cell? ⟨g, 0, none⟩ = some (.string kk) := by rw [hb1.out.cell]; rfl
      have hbN : ∀ n', Hid (Blk (World.drewN w1 n') g 38 #[.string kk, .int .i64 n, .string b, .string v]) := fun n' => hb1.out.drewN n'
      have hlN : ∀ n', Hid (Below g w (World.drewN w1 n')) := fun n' => below_drewN hlw1.out n'
      have hrN : ∀ n', Hid (Row (World.drewN w1 n') (g + 1) 38 4 En.cells v1 ([] ++ xs)) := fun n' => hr1.out.drewN n'
      go_quiet (fail)
      have hb2 := (hbN nq).out
      have hl2 := hlN nq
      have hr2 := hrN nq
      have hz2 : g < (w1.drewN nq).heap.size := by simp; omega
      clear hbN hlN hrN hb1 hlw1 hr1 htk1 d0
      generalize w1.drewN nq = w2 at *
      have d0 : w2.cell? ⟨g, 0, none⟩ = some (.string kk) := by rw [hb2.cell]; rfl
      have d1 : w2.cell? ⟨g, 1, none⟩ = some (.int .i64 n) := by rw [hb2.cell]; rfl
      have d2 : w2.cell? ⟨g, 2, none⟩ = some (.string b) := by rw [hb2.cell]; rfl
      have d3 : w2.cell? ⟨g, 3, none⟩ = some (.string v) := by rw [hb2.cell]; rfl
      clear hb2
      by_cases hcap : ca = xs.length
      all_goals
        cases A
        all_goals
          have tok1 : True := trivial
          have tok2 : True := trivial
          go_wp2_with (first
            | (at_builtin; have _t := tok1; refine wpList_append_row _ rfl _ _ 22 rfl (g + 1) 38 i0 _ 4 56 Tryz.underlying22 hi0 hz0 ‹i0.size = 4› ‹i0.bytes = 56› rfl (by decide) _ _ rfl (hr2.out.alloc _) En.len _ ⟨kk, n, b, v⟩ rfl (cells_new _ _ _) (one_E _) (by rw [List.nil_append]; unfold maxLen; omega) (by rw [List.nil_append]; omega) (by simp; omega) ?_; intro v3 w3 hrow3 hgrow3; have hl3 : Below (g + 1) w2 w3 := low_grown ((Below.refl _ _).alloc (by omega) _) (Nat.le_refl _) (by simp; omega) (hr2.out.alloc _) hgrow3; have hlw3 := Lib.hid (hl2.out.trans (hl3.mono (by omega))); have hz3 := hl3.size; have hr3 := Lib.hid hrow3; have htl3 := Lib.hid (show ([] ++ xs ++ [(⟨kk, n, b, v⟩ : En)]).length = xs.length + 1 by simp); have hff := Lib.hid (show [] ++ xs ++ [(⟨kk, n, b, v⟩ : En)] ++ [] = putE xs ⟨kk, n, b, v⟩ by rw [hfin.out, List.nil_append, List.append_nil]); clear hgrow3 hrow3 hl3 hl2 hr2 hfin d0 d1 d2 d3; generalize [] ++ xs ++ [(⟨kk, n, b, v⟩ : En)] = T3 at *; have hz4 : g < w3.heap.size := (by omega); clear hz3 hz2 tok1)
            | (at_builtin; have _t := tok2; refine wpList_append_rowsN _ rfl _ _ 22 rfl (g + 1) 38 i0 _ 4 56 Tryz.underlying22 hi0 hz0 ‹i0.size = 4› ‹i0.bytes = 56› rfl (by decide) _ _ rfl hr3.out g _ 0 _ [] rfl rfl ⟨by simp, fun h => absurd h (by omega)⟩ (fun y _ => one_E y) (by rw [htl3.out]; unfold maxLen; simp; omega) (by rw [htl3.out]; simp; omega) (by omega) ?_; intro v4 w4 hrow4 hgrow4; clear tok2))
          have hl4 : Below g w w4 := low_grown hlw3.out (by omega) (by omega) hr3.out hgrow4
          rw [hff.out] at hrow4
          clear hgrow4
          go_wp2
          go_ret
          exact ⟨_, rfl, hrow4.more (by rw [HG.out]; omega), by rw [HG.out]; exact hl4⟩
end Go.Proofs.YtjbompimlopdiaaGreatDoor.rgy
