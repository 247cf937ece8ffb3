/- Entries of a registry: Join and Put of the package. -/
import Derived.Test.YtdnefcpmechjkaaRgJ
import Derived.WalkMore
import Derived.Deep.LoopGhost
namespace Go.Proofs.Ytdnefcpmechjkaa.rgy
open Go.ChangeShapes Go.WideShapes Go.ChangeAt Go.RowKit Go.Proofs.Aid Go.Proofs.Ytdnefcpmechjkaa.name Go.Proofs.Ytdnefcpmechjkaa.reg
def merge : List En → List En → List En
  | [], q => q
  | x :: p, [] => x :: p
  | x :: p, y :: q => if lt x.key y.key then x :: merge p (y :: q) else if lt y.key x.key then y :: merge (x :: p) q else ⟨x.key, x.reg.join y.reg⟩ :: merge p q
termination_by p q => p.length + q.length
theorem merge_nil (q : List En) : merge [] q = q := by rw [merge]
theorem merge_right (p : List En) : merge p [] = p := by cases p <;> rw [merge]
theorem merge_lt {x y : En} {p q : List En} (h : lt x.key y.key = true) : merge (x :: p) (y :: q) = x :: merge p (y :: q) := by rw [merge, if_pos h]
theorem merge_gt {x y : En} {p q : List En} (h : lt x.key y.key = false) (h2 : lt y.key x.key = true) : merge (x :: p) (y :: q) = y :: merge (x :: p) q := by rw [merge, if_neg (by simp [h]), if_pos h2]
theorem merge_eq {x y : En} {p q : List En} (h : lt x.key y.key = false) (h2 : lt y.key x.key = false) : merge (x :: p) (y :: q) = ⟨x.key, x.reg.join y.reg⟩ :: merge p q := by rw [merge, if_neg (by simp [h]), if_neg (by simp [h2])]
def lenAt (w : World) (g : Nat) : Nat := match w.cell? ⟨g, 0, none⟩ with | some (.slice _ n _) => n | _ => 0
theorem lenAt_of {w : World} {g n c : Nat} {A : Option Addr} {t : TypeId} (h : Blk w g t #[.slice A n c]) : lenAt w g = n := by
  unfold lenAt; rw [h.cell]; rfl
/-- The box g has a slice of the entries p, which lie below B. -/
structure Rest (B : Nat) (g : Nat) (p : List En) (A : Option Addr) (c : Nat) (w : World) : Prop where
  blk : Blk w g 22 #[.slice A p.length c]
  cap : p.length ≤ c
  rd : Reads w B 4 A p.length (p.flatMap En.cells)
theorem Rest.next {B g : Nat} {x : En} {p : List En} {A : Option Addr} {c : Nat} {w w' : World} (h : Rest B g (x :: p) A c w) (hB : B ≤ g) (hb : Blk w' g 22 #[.slice (cutA A c) ((x :: p).length - 1) (c - 1)]) (hg : w.grownBy w' (some g)) (hBz : B ≤ w.heap.size) : Rest B g p (cutA A c) (c - 1) w' := by
  refine ⟨by simpa using hb, by have := h.cap; simp at this; omega, ?_⟩
  have h1 := Reads.dropL En.len h.rd (k := 1) (cap := c) (by simp) h.cap
  simp only [List.drop_one, List.tail_cons] at h1
  have h2 := h1.grown hg hBz (fun q hq => by injection hq with hq; omega)
  unfold cutA
  simpa using h2
theorem Rest.grown {B g : Nat} {p : List En} {A : Option Addr} {c : Nat} {w w' : World} {row : Option Nat} (h : Rest B g p A c w) (hg : w.grownBy w' row) (hBz : B ≤ w.heap.size) (hr : ∀ q, row = some q → B ≤ q ∧ q ≠ g) : Rest B g p A c w' :=
  ⟨h.blk.grown hg (fun e => (hr g e.symm).2 rfl), h.cap, h.rd.grown hg hBz (fun q hq => (hr q hq).1)⟩
theorem Rest.below {B g : Nat} {p : List En} {A : Option Addr} {c : Nat} {w w' : World} (h : Rest B g p A c w) (hb : Below w.heap.size w w') (hBz : B ≤ w.heap.size) : Rest B g p A c w' :=
  ⟨h.blk.below hb h.blk.lt, h.cap, h.rd.below (hb.mono hBz)⟩
set_option maxRecDepth 100000 in
set_option maxHeartbeats 8000000 in
theorem join_yes (w : World) (A B : Option Addr) (ca cb : Nat) (xs ys : List En) (hl : xs.length + ys.length ≤ 4000) (hc : xs.length ≤ ca) (hcb : ys.length ≤ cb) (h1 : Reads w w.heap.size 4 A xs.length (xs.flatMap En.cells)) (h2 : Reads w w.heap.size 4 B ys.length (ys.flatMap En.cells)) (hz : ∀ r ∈ xs, r.sz) (hzb : ∀ r ∈ ys, r.sz) (hm : may xs = true) (hm2 : may ys = true) :
    Calls Try.prog 21 #[.slice A xs.length ca, .slice B ys.length cb] w (RowP w (merge xs ys) 0) := by
  obtain ⟨i0, hi0, hz0, hz1, hz2⟩ := info_parts infoE
  have HS := Lib.hid hz
  have HT := Lib.hid hzb
  have hl0 := Lib.hid (below_lit2 w (.cells #[.slice A xs.length ca] 22) (.cells #[.slice B ys.length cb] 22))
  have HK := Lib.hid (chk_ok hm)
  have HK2 := Lib.hid (chk_ok hm2)
  have hr1 : Rest w.heap.size w.heap.size xs A ca ((w.alloc (.cells #[.slice A xs.length ca] 22)).alloc (.cells #[.slice B ys.length cb] 22)) :=
    ⟨(Blk.new w _ _).alloc _, hc, h1.below hl0.out⟩
  have hr2 : Rest w.heap.size (w.heap.size + 1) ys B cb ((w.alloc (.cells #[.slice A xs.length ca] 22)).alloc (.cells #[.slice B ys.length cb] 22)) :=
    ⟨by have := Blk.new (w.alloc (.cells #[.slice A xs.length ca] 22)) 22 #[.slice B ys.length cb]; rwa [World.size_alloc] at this, hcb, h2.below hl0.out⟩
  have HR1 := Lib.hid hr1
  have HR2 := Lib.hid hr2
  clear hz hzb hm hm2 h1 h2 hr1 hr2
  have d1 : ((w.alloc (.cells #[.slice A xs.length ca] 22)).alloc (.cells #[.slice B ys.length cb] 22)).cell? ⟨w.heap.size, 0, none⟩ = some (.slice A xs.length ca) := by rw [HR1.out.blk.cell]; rfl
  go_enter Try.func21, Try.ntmps21
  go_wp2
  go_step3
  go_wp2_with fail
  generalize (w.alloc (.cells #[.slice A xs.length ca] 22)).alloc (.cells #[.slice B ys.length cb] 22) = w2 at *
  generalize hg : w.heap.size = g at *
  have HG := Lib.hid hg
  clear hg d1
  have hgz : g ≤ w2.heap.size := by have := hl0.out.size; have := HG.out; omega
  refine (chk_any w2 A ca xs (by omega) (HR1.out.rd.more hgz) HS.out).mono ?_
  rw [HK.out]
  rintro e w3 ⟨rfl, hb⟩
  have HA := Lib.hid (HR1.out.below hb hgz)
  have HB := Lib.hid (HR2.out.below hb hgz)
  have HL := Lib.hid (hl0.out.trans (hb.mono hgz))
  have hgz3 : g ≤ w3.heap.size := by have := hb.size; omega
  have d2 : w3.cell? ⟨g + 1, 0, none⟩ = some (.slice B ys.length cb) := by rw [HB.out.blk.cell]; rfl
  clear hb hl0 HR1 HR2
  go_wp2_with fail
  refine (chk_any w3 B cb ys (by omega) (HB.out.rd.more hgz3) HT.out).mono ?_
  rw [HK2.out]
  rintro e w4 ⟨rfl, hb⟩
  have HA2 := Lib.hid (HA.out.below hb hgz3)
  have HB2 := Lib.hid (HB.out.below hb hgz3)
  have HL2 := Lib.hid (HL.out.trans (hb.mono hgz3))
  have hgz4 : g + 1 < w4.heap.size := HB2.out.blk.lt
  clear hb HA HB HL hgz3 d2 hgz
  have hrow0 : Row w4 (g + 2) 35 4 En.cells (.slice none 0 0) [] := Row.nil _ _ _ _ _
  have HRW := Lib.hid hrow0
  clear hrow0
  go_wp2_with fail
  go_step3
  go_wp2_with fail
  go_loopg [6] (xs.length + ys.length) (fun gk v wr => ∃ (p q L : List En) (A1 A2 : Option Addr) (c1 c2 : Nat), p.length + q.length = gk ∧ Hid (L ++ merge p q = merge xs ys) ∧ L.length + p.length + q.length ≤ 4000 ∧ Hid (Rest g g p A1 c1 wr) ∧ Hid (Rest g (g + 1) q A2 c2 wr) ∧ Hid (Row wr (g + 2) 35 4 En.cells v L) ∧ Hid (Below g w wr))
  case atStart => exact ⟨xs, ys, [], A, B, ca, cb, rfl, by rw [List.nil_append]; exact rfl, by simpa using hl, HA2, HB2, HRW, HL2⟩
  case round =>
    clear HA2 HB2 HRW HL2
    obtain ⟨p, q, L, A1, A2, c1, c2, hgk, hI, hlen, hA, hB, hrow, hlow⟩ := hrel
    have hgz : g + 1 < wr.heap.size := hB.out.blk.lt
    have d1 : wr.cell? ⟨g, 0, none⟩ = some (.slice A1 p.length c1) := by rw [hA.out.blk.cell]; rfl
    have d2 : wr.cell? ⟨g + 1, 0, none⟩ = some (.slice A2 q.length c2) := by rw [hB.out.blk.cell]; rfl
    cases p with
    | nil =>
      cases q with
      | nil =>
        rw [merge_nil, List.append_nil] at hI
        rw [List.length_nil] at d1 d2
        have hll : L.length ≤ 4096 := by simp at hlen; omega
        obtain ⟨A9, c9, rfl⟩ := hrow.out.form
        have hr := Lib.hid (show Row wr w.heap.size 35 4 En.cells (.slice A9 L.length c9) (merge xs ys) by rw [← hI.out]; exact hrow.out.more (by rw [HG.out]; omega))
        have hl := Lib.hid (show Below w.heap.size w wr by rw [HG.out]; exact hlow.out)
        clear hI hrow hlow hA hB hlen
        go_wp2
        try rw [Exit.noGoto_ret]
        go_ret2
        exact ⟨_, rfl, hr.out, hl.out⟩
      | cons y q =>
        have hI2 := Lib.hid (show (L ++ [y]) ++ merge [] q = merge xs ys by rw [← hI.out, merge_nil, merge_nil, List.append_assoc]; rfl)
        obtain ⟨kk, n, b, v9⟩ := y
        rw [List.length_nil] at d1
        rw [List.length_cons] at d2
        have hq0 : ((q.length : Int) + 1 == 0) = false := by rw [beq_eq_false_iff_ne]; omega
        clear hI

        have hrN : ∀ n', Hid (Row (World.drewN _ n') (g + 2) 35 4 En.cells _ L) := fun n' => hrow.out.drewN n'
        have hAN : ∀ n', Hid (Rest g g _ A1 c1 (World.drewN _ n')) := fun n' => ⟨hA.out.blk.drewN n', hA.out.cap, hA.out.rd.drewN n'⟩
        have hBN : ∀ n', Hid (Rest g (g + 1) _ A2 c2 (World.drewN _ n')) := fun n' => ⟨hB.out.blk.drewN n', hB.out.cap, hB.out.rd.drewN n'⟩
        have hlN : ∀ n', Hid (Below g w (World.drewN _ n')) := fun n' => below_drewN hlow.out n'
        clear hrow hA hB hlow
        go_wp2_with fail
        go_quiet (fail)

        have hA := hAN nq
        have hB := hBN nq
        have hrow := hrN nq
        have hlow := hlN nq
        have hgz' : g + 1 < (wr.drewN nq).heap.size := by simp; omega
        clear hAN hBN hrN hlN hgz
        generalize wr.drewN nq = wr' at *
        have hgz := hgz'
        clear hgz'

        clear d1 d2
        have d1 : wr'.cell? ⟨g, 0, none⟩ = some (.slice A1 0 c1) := by rw [hA.out.blk.cell]; rfl
        have d2 : wr'.cell? ⟨g + 1, 0, none⟩ = some (.slice A2 (q.length + 1) c2) := by rw [hB.out.blk.cell]; rfl

        have hrN : ∀ n', Hid (Row (World.drewN _ n') (g + 2) 35 4 En.cells _ L) := fun n' => hrow.out.drewN n'
        have hAN : ∀ n', Hid (Rest g g _ A1 c1 (World.drewN _ n')) := fun n' => ⟨hA.out.blk.drewN n', hA.out.cap, hA.out.rd.drewN n'⟩
        have hBN : ∀ n', Hid (Rest g (g + 1) _ A2 c2 (World.drewN _ n')) := fun n' => ⟨hB.out.blk.drewN n', hB.out.cap, hB.out.rd.drewN n'⟩
        have hlN : ∀ n', Hid (Below g w (World.drewN _ n')) := fun n' => below_drewN hlow.out n'
        clear hrow hA hB hlow
        go_wp2_with fail
        go_quiet (fail)

        have hA := hAN nq
        have hB := hBN nq
        have hrow := hrN nq
        have hlow := hlN nq
        have hgz' : g + 1 < (wr'.drewN nq).heap.size := by simp; omega
        clear hAN hBN hrN hlN d1 d2 hgz
        generalize wr'.drewN nq = wq at *
        have hgz := hgz'
        clear hgz'

        go_wp2_with fail
        refine (take_any _ (g + 1) A2 c2 q ⟨kk, n, b, v9⟩ (by simp at hlen; omega) hB.out.cap hB.out.blk g (by omega) hB.out.rd).mono ?_
        rintro e w1 ⟨rfl, hbk, hgr⟩
        have hz1 : g + 1 < w1.heap.size := hbk.lt
        have hA1 := Lib.hid (hA.out.grown hgr (by omega) (fun q' hq => by injection hq with hq; omega))
        have hB1 := Lib.hid (hB.out.next (by omega) hbk hgr (by omega))
        have hrow1 := hrow.out.kept hgr (fun q' hq e => by have := (hrow.out.own hq).1; injection e with e; omega)
        have hlow1 := Lib.hid (hlow.out.grown hgr (by omega) (fun q' hq => by injection hq with hq; omega))

        clear hbk hgr hA hB hrow hlow
        go_wp2_with (at_builtin; refine wpList_append_row _ rfl _ _ 22 rfl (g + 2) 35 i0 _ 4 56 Try.underlying22 hi0 hz0 ‹i0.size = 4› ‹i0.bytes = 56› rfl (by decide) _ _ rfl (hrow1.alloc _) En.len _ ⟨kk, n, b, v9⟩ rfl (cells_new _ _ _) (one_E _) (by unfold maxLen; simp at hlen; omega) (by simp at hlen; omega) (by simp; omega) ?_; intro v' w2 hrow2 hgrow2)
        have hA2 := Lib.hid ((hA1.out.below (below_lit _ _) (by omega)).grown hgrow2 (by simp; omega) (fun q' hq => by have := (hrow1.own hq).1; omega))
        have hB2 := Lib.hid ((hB1.out.below (below_lit _ _) (by omega)).grown hgrow2 (by simp; omega) (fun q' hq => by have := (hrow1.own hq).1; omega))
        have hlow2 := Lib.hid (low_row hlow1.out hrow1 (by omega) (by omega) hgrow2)
        have hrow3 := Lib.hid hrow2
        clear hgrow2 hrow1 hA1 hB1 hlow1 hrow2
        go_wp2
        go_roundg (gk - 1)
        case measure => simp at hgk; omega
        case rel => exact ⟨[], q, L ++ [⟨kk, n, b, v9⟩], A1, _, c1, _, by simp at hgk ⊢; omega, hI2, by simp at hlen ⊢; omega, hA2, hB2, hrow3, hlow2⟩
    | cons x p =>
      cases q with
      | nil =>
        have hI2 := Lib.hid (show (L ++ [x]) ++ merge p [] = merge xs ys by rw [← hI.out, merge_right, merge_right, List.append_assoc]; rfl)
        obtain ⟨kk, n, b, v9⟩ := x
        rw [List.length_cons] at d1
        rw [List.length_nil] at d2
        have hq0 : ((p.length : Int) + 1 == 0) = false := by rw [beq_eq_false_iff_ne]; omega
        clear hI

        have hrN : ∀ n', Hid (Row (World.drewN _ n') (g + 2) 35 4 En.cells _ L) := fun n' => hrow.out.drewN n'
        have hAN : ∀ n', Hid (Rest g g _ A1 c1 (World.drewN _ n')) := fun n' => ⟨hA.out.blk.drewN n', hA.out.cap, hA.out.rd.drewN n'⟩
        have hBN : ∀ n', Hid (Rest g (g + 1) _ A2 c2 (World.drewN _ n')) := fun n' => ⟨hB.out.blk.drewN n', hB.out.cap, hB.out.rd.drewN n'⟩
        have hlN : ∀ n', Hid (Below g w (World.drewN _ n')) := fun n' => below_drewN hlow.out n'
        clear hrow hA hB hlow
        go_wp2_with fail
        go_quiet (fail)

        have hA := hAN nq
        have hB := hBN nq
        have hrow := hrN nq
        have hlow := hlN nq
        have hgz' : g + 1 < (wr.drewN nq).heap.size := by simp; omega
        clear hAN hBN hrN hlN hgz
        generalize wr.drewN nq = wr' at *
        have hgz := hgz'
        clear hgz'

        clear d1 d2

        go_wp2_with fail
        refine (take_any _ g A1 c1 p ⟨kk, n, b, v9⟩ (by simp at hlen; omega) hA.out.cap hA.out.blk g (by omega) hA.out.rd).mono ?_
        rintro e w1 ⟨rfl, hbk, hgr⟩
        have hz1 : g + 1 < w1.heap.size := Nat.lt_of_lt_of_le hgz hgr.size
        have hB1 := Lib.hid (hB.out.grown hgr (by omega) (fun q' hq => by injection hq with hq; omega))
        have hA1 := Lib.hid (hA.out.next (by omega) hbk hgr (by omega))
        have hrow1 := hrow.out.kept hgr (fun q' hq e => by have := (hrow.out.own hq).1; injection e with e; omega)
        have hlow1 := Lib.hid (hlow.out.grown hgr (by omega) (fun q' hq => by injection hq with hq; omega))

        clear hbk hgr hA hB hrow hlow
        go_wp2_with (at_builtin; refine wpList_append_row _ rfl _ _ 22 rfl (g + 2) 35 i0 _ 4 56 Try.underlying22 hi0 hz0 ‹i0.size = 4› ‹i0.bytes = 56› rfl (by decide) _ _ rfl (hrow1.alloc _) En.len _ ⟨kk, n, b, v9⟩ rfl (cells_new _ _ _) (one_E _) (by unfold maxLen; simp at hlen; omega) (by simp at hlen; omega) (by simp; omega) ?_; intro v' w2 hrow2 hgrow2)
        have hA2 := Lib.hid ((hA1.out.below (below_lit _ _) (by omega)).grown hgrow2 (by simp; omega) (fun q' hq => by have := (hrow1.own hq).1; omega))
        have hB2 := Lib.hid ((hB1.out.below (below_lit _ _) (by omega)).grown hgrow2 (by simp; omega) (fun q' hq => by have := (hrow1.own hq).1; omega))
        have hlow2 := Lib.hid (low_row hlow1.out hrow1 (by omega) (by omega) hgrow2)
        have hrow3 := Lib.hid hrow2
        clear hgrow2 hrow1 hA1 hB1 hlow1 hrow2
        go_wp2
        go_roundg (gk - 1)
        case measure => simp at hgk; omega
        case rel => exact ⟨p, [], L ++ [⟨kk, n, b, v9⟩], _, A2, _, c2, by simp at hgk ⊢; omega, hI2, by simp at hlen ⊢; omega, hA2, hB2, hrow3, hlow2⟩
      | cons y q =>
        have hmerge := Lib.hid (@merge_lt x y p q)
        have hmerge2 := Lib.hid (@merge_gt x y p q)
        have hmerge3 := Lib.hid (@merge_eq x y p q)
        have hIlt : Hid (lt x.key y.key = true → (L ++ [x]) ++ merge p (y :: q) = merge xs ys) := fun h => by rw [← hI.out, merge_lt h, List.append_assoc]; rfl
        have hIgt : Hid (lt x.key y.key = false → lt y.key x.key = true → (L ++ [y]) ++ merge (x :: p) q = merge xs ys) := fun h h2 => by rw [← hI.out, merge_gt h h2, List.append_assoc]; rfl
        have hIeq : Hid (lt x.key y.key = false → lt y.key x.key = false → (L ++ [⟨x.key, x.reg.join y.reg⟩]) ++ merge p q = merge xs ys) := fun h h2 => by rw [← hI.out, merge_eq h h2, List.append_assoc]; rfl
        obtain ⟨ad1, rfl, had1, c0, -⟩ := elemE hA.out.rd (i := 0) (by simp)
        obtain ⟨ad2, rfl, had2, c1', -⟩ := elemE hB.out.rd (i := 0) (by simp)
        rw [show ad1.add (0 * 4) = ad1 by simp [Addr.add], List.getElem_cons_zero] at c0
        rw [show ad2.add (0 * 4) = ad2 by simp [Addr.add], List.getElem_cons_zero] at c1'
        obtain ⟨kk, n, b, v9⟩ := x
        obtain ⟨kk2, n2, b2, v2⟩ := y
        simp only at c0 c1' hIlt hIgt hIeq
        rw [List.length_cons] at d1 d2
        have hp0 : ((p.length : Int) + 1 == 0) = false := by rw [beq_eq_false_iff_ne]; omega
        have hq0 : ((q.length : Int) + 1 == 0) = false := by rw [beq_eq_false_iff_ne]; omega
        have hpg : decide ((0 : Int) < (p.length : Int) + 1) = true := by rw [decide_eq_true_eq]; omega
        have hpg2 : decide (0 < p.length + 1) = true := by rw [decide_eq_true_eq]; omega
        clear hI hmerge hmerge2 hmerge3
        cases hl1 : lt kk kk2 with
        | true =>
          have hI2 := Lib.hid (hIlt.out hl1)
          have hbl : Op.bytesLess kk.toList kk2.toList = true := hl1
          clear hIlt hIgt hIeq hl1

          have hcN : ∀ n', (World.drewN _ n').cell? ad1 = some (.string kk) ∧ (World.drewN _ n').cell? ad2 = some (.string kk2) := fun _ => ⟨c0, c1'⟩
          have hrN : ∀ n', Hid (Row (World.drewN _ n') (g + 2) 35 4 En.cells _ L) := fun n' => hrow.out.drewN n'
          have hAN : ∀ n', Hid (Rest g g _ (some ad1) c1 (World.drewN _ n')) := fun n' => ⟨hA.out.blk.drewN n', hA.out.cap, hA.out.rd.drewN n'⟩
          have hBN : ∀ n', Hid (Rest g (g + 1) _ (some ad2) c2 (World.drewN _ n')) := fun n' => ⟨hB.out.blk.drewN n', hB.out.cap, hB.out.rd.drewN n'⟩
          have hlN : ∀ n', Hid (Below g w (World.drewN _ n')) := fun n' => below_drewN hlow.out n'
          clear hrow hA hB hlow
          go_wp2_with fail
          go_quiet (fail)

          have hA := hAN nq
          have hB := hBN nq
          have hrow := hrN nq
          have hlow := hlN nq
          obtain ⟨e0, e1⟩ := hcN nq
          have hgz' : g + 1 < (wr.drewN nq).heap.size := by simp; omega
          clear hAN hBN hrN hlN hcN hgz d1 d2 c0 c1'
          generalize wr.drewN nq = wr' at *
          have hgz := hgz'
          clear hgz'

          go_wp2_with fail
          refine (take_any _ g (some ad1) c1 p ⟨kk, n, b, v9⟩ (by simp at hlen; omega) hA.out.cap hA.out.blk g (by omega) hA.out.rd).mono ?_
          rintro e w1 ⟨rfl, hbk, hgr⟩
          have hz1 : g + 1 < w1.heap.size := Nat.lt_of_lt_of_le hgz hgr.size
          have hB1 := Lib.hid (hB.out.grown hgr (by omega) (fun q' hq => by injection hq with hq; omega))
          have hA1 := Lib.hid (hA.out.next (by omega) hbk hgr (by omega))
          have hrow1 := hrow.out.kept hgr (fun q' hq e => by have := (hrow.out.own hq).1; injection e with e; omega)
          have hlow1 := Lib.hid (hlow.out.grown hgr (by omega) (fun q' hq => by injection hq with hq; omega))

          clear hbk hgr hA hB hrow hlow
          go_wp2_with (at_builtin; refine wpList_append_row _ rfl _ _ 22 rfl (g + 2) 35 i0 _ 4 56 Try.underlying22 hi0 hz0 ‹i0.size = 4› ‹i0.bytes = 56› rfl (by decide) _ _ rfl (hrow1.alloc _) En.len _ ⟨kk, n, b, v9⟩ rfl (cells_new _ _ _) (one_E _) (by unfold maxLen; simp at hlen; omega) (by simp at hlen; omega) (by simp; omega) ?_; intro v' w2 hrow2 hgrow2)
          have hA2 := Lib.hid ((hA1.out.below (below_lit _ _) (by omega)).grown hgrow2 (by simp; omega) (fun q' hq => by have := (hrow1.own hq).1; omega))
          have hB2 := Lib.hid ((hB1.out.below (below_lit _ _) (by omega)).grown hgrow2 (by simp; omega) (fun q' hq => by have := (hrow1.own hq).1; omega))
          have hlow2 := Lib.hid (low_row hlow1.out hrow1 (by omega) (by omega) hgrow2)
          have hrow3 := Lib.hid hrow2
          clear hgrow2 hrow1 hA1 hB1 hlow1 hrow2
          go_wp2
          go_roundg (gk - 1)
          case measure => simp at hgk; omega
          case rel => exact ⟨p, ⟨kk2, n2, b2, v2⟩ :: q, L ++ [⟨kk, n, b, v9⟩], _, some ad2, _, c2, by simp at hgk ⊢; omega, hI2, by simp at hlen ⊢; omega, hA2, hB2, hrow3, hlow2⟩
        | false =>
          cases hl2 : lt kk2 kk with
          | true =>
            have hI2 := Lib.hid (hIgt.out hl1 hl2)
            have hbl2 : Op.bytesLess kk2.toList kk.toList = true := hl2
            clear hIlt hIgt hIeq hl2

            have hbl : Op.bytesLess kk.toList kk2.toList = false := hl1
            clear hl1

            have hcN : ∀ n', (World.drewN _ n').cell? ad1 = some (.string kk) ∧ (World.drewN _ n').cell? ad2 = some (.string kk2) := fun _ => ⟨c0, c1'⟩
            have hrN : ∀ n', Hid (Row (World.drewN _ n') (g + 2) 35 4 En.cells _ L) := fun n' => hrow.out.drewN n'
            have hAN : ∀ n', Hid (Rest g g _ (some ad1) c1 (World.drewN _ n')) := fun n' => ⟨hA.out.blk.drewN n', hA.out.cap, hA.out.rd.drewN n'⟩
            have hBN : ∀ n', Hid (Rest g (g + 1) _ (some ad2) c2 (World.drewN _ n')) := fun n' => ⟨hB.out.blk.drewN n', hB.out.cap, hB.out.rd.drewN n'⟩
            have hlN : ∀ n', Hid (Below g w (World.drewN _ n')) := fun n' => below_drewN hlow.out n'
            clear hrow hA hB hlow
            go_wp2_with fail
            go_quiet (fail)

            have hA := hAN nq
            have hB := hBN nq
            have hrow := hrN nq
            have hlow := hlN nq
            obtain ⟨e0, e1⟩ := hcN nq
            have hgz' : g + 1 < (wr.drewN nq).heap.size := by simp; omega
            clear hAN hBN hrN hlN hcN hgz d1 d2 c0 c1'
            generalize wr.drewN nq = wr' at *
            have hgz := hgz'
            clear hgz'

            have d1 : wr'.cell? ⟨g, 0, none⟩ = some (.slice (some ad1) (p.length + 1) c1) := by rw [hA.out.blk.cell]; rfl
            have d2 : wr'.cell? ⟨g + 1, 0, none⟩ = some (.slice (some ad2) (q.length + 1) c2) := by rw [hB.out.blk.cell]; rfl
            have c0 := e0
            have c1' := e1
            clear e0 e1

            have hcN : ∀ n', (World.drewN _ n').cell? ad1 = some (.string kk) ∧ (World.drewN _ n').cell? ad2 = some (.string kk2) := fun _ => ⟨c0, c1'⟩
            have hrN : ∀ n', Hid (Row (World.drewN _ n') (g + 2) 35 4 En.cells _ L) := fun n' => hrow.out.drewN n'
            have hAN : ∀ n', Hid (Rest g g _ (some ad1) c1 (World.drewN _ n')) := fun n' => ⟨hA.out.blk.drewN n', hA.out.cap, hA.out.rd.drewN n'⟩
            have hBN : ∀ n', Hid (Rest g (g + 1) _ (some ad2) c2 (World.drewN _ n')) := fun n' => ⟨hB.out.blk.drewN n', hB.out.cap, hB.out.rd.drewN n'⟩
            have hlN : ∀ n', Hid (Below g w (World.drewN _ n')) := fun n' => below_drewN hlow.out n'
            clear hrow hA hB hlow
            go_wp2_with fail
            go_quiet (fail)

            have hA := hAN nq
            have hB := hBN nq
            have hrow := hrN nq
            have hlow := hlN nq
            obtain ⟨e0, e1⟩ := hcN nq
            have hgz' : g + 1 < (wr'.drewN nq).heap.size := by simp; omega
            clear hAN hBN hrN hlN hcN hgz d1 d2 c0 c1'
            generalize wr'.drewN nq = wq at *
            have hgz := hgz'
            clear hgz'

            go_wp2_with fail
            refine (take_any _ (g + 1) (some ad2) c2 q ⟨kk2, n2, b2, v2⟩ (by simp at hlen; omega) hB.out.cap hB.out.blk g (by omega) hB.out.rd).mono ?_
            rintro e w1 ⟨rfl, hbk, hgr⟩
            have hz1 : g + 1 < w1.heap.size := hbk.lt
            have hA1 := Lib.hid (hA.out.grown hgr (by omega) (fun q' hq => by injection hq with hq; omega))
            have hB1 := Lib.hid (hB.out.next (by omega) hbk hgr (by omega))
            have hrow1 := hrow.out.kept hgr (fun q' hq e => by have := (hrow.out.own hq).1; injection e with e; omega)
            have hlow1 := Lib.hid (hlow.out.grown hgr (by omega) (fun q' hq => by injection hq with hq; omega))

            clear hbk hgr hA hB hrow hlow
            go_wp2_with (at_builtin; refine wpList_append_row _ rfl _ _ 22 rfl (g + 2) 35 i0 _ 4 56 Try.underlying22 hi0 hz0 ‹i0.size = 4› ‹i0.bytes = 56› rfl (by decide) _ _ rfl (hrow1.alloc _) En.len _ ⟨kk2, n2, b2, v2⟩ rfl (cells_new _ _ _) (one_E _) (by unfold maxLen; simp at hlen; omega) (by simp at hlen; omega) (by simp; omega) ?_; intro v' w2 hrow2 hgrow2)
            have hA2 := Lib.hid ((hA1.out.below (below_lit _ _) (by omega)).grown hgrow2 (by simp; omega) (fun q' hq => by have := (hrow1.own hq).1; omega))
            have hB2 := Lib.hid ((hB1.out.below (below_lit _ _) (by omega)).grown hgrow2 (by simp; omega) (fun q' hq => by have := (hrow1.own hq).1; omega))
            have hlow2 := Lib.hid (low_row hlow1.out hrow1 (by omega) (by omega) hgrow2)
            have hrow3 := Lib.hid hrow2
            clear hgrow2 hrow1 hA1 hB1 hlow1 hrow2
            go_wp2
            go_roundg (gk - 1)
            case measure => simp at hgk; omega
            case rel => exact ⟨⟨kk, n, b, v9⟩ :: p, q, L ++ [⟨kk2, n2, b2, v2⟩], some ad1, _, c1, _, by simp at hgk ⊢; omega, hI2, by simp at hlen ⊢; omega, hA2, hB2, hrow3, hlow2⟩
          | false =>
            have hI2 := Lib.hid (hIeq.out hl1 hl2)
            have hbl2 : Op.bytesLess kk2.toList kk.toList = false := hl2
            clear hIlt hIgt hIeq hl2

            have hbl : Op.bytesLess kk.toList kk2.toList = false := hl1
            clear hl1

            have hcN : ∀ n', (World.drewN _ n').cell? ad1 = some (.string kk) ∧ (World.drewN _ n').cell? ad2 = some (.string kk2) := fun _ => ⟨c0, c1'⟩
            have hrN : ∀ n', Hid (Row (World.drewN _ n') (g + 2) 35 4 En.cells _ L) := fun n' => hrow.out.drewN n'
            have hAN : ∀ n', Hid (Rest g g _ (some ad1) c1 (World.drewN _ n')) := fun n' => ⟨hA.out.blk.drewN n', hA.out.cap, hA.out.rd.drewN n'⟩
            have hBN : ∀ n', Hid (Rest g (g + 1) _ (some ad2) c2 (World.drewN _ n')) := fun n' => ⟨hB.out.blk.drewN n', hB.out.cap, hB.out.rd.drewN n'⟩
            have hlN : ∀ n', Hid (Below g w (World.drewN _ n')) := fun n' => below_drewN hlow.out n'
            clear hrow hA hB hlow
            go_wp2_with fail
            go_quiet (fail)

            have hA := hAN nq
            have hB := hBN nq
            have hrow := hrN nq
            have hlow := hlN nq
            obtain ⟨e0, e1⟩ := hcN nq
            have hgz' : g + 1 < (wr.drewN nq).heap.size := by simp; omega
            clear hAN hBN hrN hlN hcN hgz d1 d2 c0 c1'
            generalize wr.drewN nq = wr' at *
            have hgz := hgz'
            clear hgz'

            have d1 : wr'.cell? ⟨g, 0, none⟩ = some (.slice (some ad1) (p.length + 1) c1) := by rw [hA.out.blk.cell]; rfl
            have d2 : wr'.cell? ⟨g + 1, 0, none⟩ = some (.slice (some ad2) (q.length + 1) c2) := by rw [hB.out.blk.cell]; rfl
            have c0 := e0
            have c1' := e1
            clear e0 e1

            have hcN : ∀ n', (World.drewN _ n').cell? ad1 = some (.string kk) ∧ (World.drewN _ n').cell? ad2 = some (.string kk2) := fun _ => ⟨c0, c1'⟩
            have hrN : ∀ n', Hid (Row (World.drewN _ n') (g + 2) 35 4 En.cells _ L) := fun n' => hrow.out.drewN n'
            have hAN : ∀ n', Hid (Rest g g _ (some ad1) c1 (World.drewN _ n')) := fun n' => ⟨hA.out.blk.drewN n', hA.out.cap, hA.out.rd.drewN n'⟩
            have hBN : ∀ n', Hid (Rest g (g + 1) _ (some ad2) c2 (World.drewN _ n')) := fun n' => ⟨hB.out.blk.drewN n', hB.out.cap, hB.out.rd.drewN n'⟩
            have hlN : ∀ n', Hid (Below g w (World.drewN _ n')) := fun n' => below_drewN hlow.out n'
            clear hrow hA hB hlow
            go_wp2_with fail
            go_quiet (fail)

            have hA := hAN nq
            have hB := hBN nq
            have hrow := hrN nq
            have hlow := hlN nq
            obtain ⟨e0, e1⟩ := hcN nq
            have hgz' : g + 1 < (wr'.drewN nq).heap.size := by simp; omega
            clear hAN hBN hrN hlN hcN hgz d1 d2 c0 c1'
            generalize wr'.drewN nq = wq at *
            have hgz := hgz'
            clear hgz'

            go_wp2_with fail
            refine (take_any _ g (some ad1) c1 p ⟨kk, n, b, v9⟩ (by simp at hlen; omega) hA.out.cap hA.out.blk g (by omega) hA.out.rd).mono ?_
            rintro e w1 ⟨rfl, hbk, hgr⟩
            have hz1 : g + 1 < w1.heap.size := Nat.lt_of_lt_of_le hgz hgr.size
            have hB1 := Lib.hid (hB.out.grown hgr (by omega) (fun q' hq => by injection hq with hq; omega))
            have hA1 := Lib.hid (hA.out.next (by omega) hbk hgr (by omega))
            have hrow1 := hrow.out.kept hgr (fun q' hq e => by have := (hrow.out.own hq).1; injection e with e; omega)
            have hlow1 := Lib.hid (hlow.out.grown hgr (by omega) (fun q' hq => by injection hq with hq; omega))

            clear hbk hgr hA hB hrow hlow
            go_wp2_with fail
            refine (take_any _ (g + 1) (some ad2) c2 q ⟨kk2, n2, b2, v2⟩ (by simp at hlen; omega) hB1.out.cap hB1.out.blk g (by omega) hB1.out.rd).mono ?_
            rintro e w2 ⟨rfl, hbk, hgr⟩
            have hz2 : g + 1 < w2.heap.size := hbk.lt
            have hA2 := hA1.out.grown hgr (by omega) (fun q' hq => by injection hq with hq; omega)
            have hB2 := hB1.out.next (by omega) hbk hgr (by omega)
            have hrow2 := hrow1.kept hgr (fun q' hq e => by have := (hrow1.own hq).1; injection e with e; omega)
            have hlow2 := hlow1.out.grown hgr (by omega) (fun q' hq => by injection hq with hq; omega)
            have HX1 := (Blk.new w2 35 #[.string kk, .int .i64 n, .string b, .string v9]).alloc (.cells #[.string kk2, .int .i64 n2, .string b2, .string v2] 35)
            have HX2 := Blk.new (w2.alloc (.cells #[.string kk, .int .i64 n, .string b, .string v9] 35)) 35 #[.string kk2, .int .i64 n2, .string b2, .string v2]
            rw [World.size_alloc] at HX2
            have hbl2' := below_lit2 w2 (.cells #[.string kk, .int .i64 n, .string b, .string v9] 35) (.cells #[.string kk2, .int .i64 n2, .string b2, .string v2] 35)
            have hA3 := Lib.hid (hA2.below hbl2' (by omega))
            have hB3 := Lib.hid (hB2.below hbl2' (by omega))
            have hrow3 := Lib.hid (hrow2.below hbl2')
            have hlow3 := Lib.hid (hlow2.trans (hbl2'.mono (by omega)))
            have hown : ∀ q', u6.ownBlock = some q' → q' < w2.heap.size := fun q' hq => (hrow2.own hq).2
            have HOWN := Lib.hid hown
            have HX1' := Lib.hid HX1
            have HX2' := Lib.hid HX2
            clear hbk hgr hA1 hB1 hrow1 hlow1 hA2 hB2 hrow2 hlow2 hbl2' HX1 HX2 hown
            go_wp2_with fail
            have hz3 : w2.heap.size + 1 < ((w2.alloc (.cells #[.string kk, .int .i64 n, .string b, .string v9] 35)).alloc (.cells #[.string kk2, .int .i64 n2, .string b2, .string v2] 35)).heap.size := HX2'.out.lt
            generalize (w2.alloc (.cells #[.string kk, .int .i64 n, .string b, .string v9] 35)).alloc (.cells #[.string kk2, .int .i64 n2, .string b2, .string v2] 35) = w5 at *
            generalize w2.heap.size = gx at *
            have hn1 : gx < w5.heap.size ∧ some gx ≠ u6.ownBlock := ⟨by omega, fun e => by have := HOWN.out _ e.symm; omega⟩
            have hn2 : gx + 1 < w5.heap.size ∧ some (gx + 1) ≠ u6.ownBlock := ⟨hz3, fun e => by have := HOWN.out _ e.symm; omega⟩
            have test := Kg.drew_7 (Kg.new_7 (w0 := w5) (r := u6.ownBlock) (p0 := ⟨gx, 0, none⟩) (p1 := ⟨gx, 1, none⟩) (p2 := ⟨gx, 2, none⟩) (p3 := ⟨gx, 3, none⟩) (p4 := ⟨gx + 1, 1, none⟩) (p5 := ⟨gx + 1, 2, none⟩) (p6 := ⟨gx + 1, 3, none⟩) (v0 := .string kk) (v1 := .int .i64 n) (v2 := .string b) (v3 := .string v9) (v4 := .int .i64 n2) (v5 := .string b2) (v6 := .string v2) (by rw [HX1'.out.cell]; rfl) hn1 (by rw [HX1'.out.cell]; rfl) hn1 (by rw [HX1'.out.cell]; rfl) hn1 (by rw [HX1'.out.cell]; rfl) hn1 (by rw [HX2'.out.cell]; rfl) hn2 (by rw [HX2'.out.cell]; rfl) hn2 (by rw [HX2'.out.cell]; rfl) hn2)
            generalize hj : Rg.join ⟨n, b, v9⟩ ⟨n2, b2, v2⟩ = jr at hI2
            have HJ := Lib.hid hj
            obtain ⟨jn, jb, jv⟩ := jr
            clear hj HX1' HX2' HOWN hn1 hn2
            refine wp_region_held_drew (S := (fun w' => w'.cell? (⟨gx, 0, none⟩) = some (.string kk) ∧ w'.cell? (⟨gx, 1, none⟩) = some (.int .i64 n) ∧ w'.cell? (⟨gx, 2, none⟩) = some (.string b) ∧ w'.cell? (⟨gx, 3, none⟩) = some (.string v9) ∧ w'.cell? (⟨gx + 1, 1, none⟩) = some (.int .i64 n2) ∧ w'.cell? (⟨gx + 1, 2, none⟩) = some (.string b2) ∧ w'.cell? (⟨gx + 1, 3, none⟩) = some (.string v2) ∧ Hid (Kg (u6.ownBlock) (w5) [(⟨gx, 0, none⟩, .string kk), (⟨gx, 1, none⟩, .int .i64 n), (⟨gx, 2, none⟩, .string b), (⟨gx, 3, none⟩, .string v9), (⟨gx + 1, 1, none⟩, .int .i64 n2), (⟨gx + 1, 2, none⟩, .string b2), (⟨gx + 1, 3, none⟩, .string v2)] w'))) (by kernel_rfl) ?_ (fun hHeldp0 => ?_)
            · exact test
            refine wpAnyH_take (i := 0) (v := ?vp0) ops0 (by kernel_rfl) (by kernel_rfl) (by kernel_rfl) (fun _ _ _ h => h) (Or.inl ⟨by rfl, ?yp0⟩) hHeldp0 ?_
            case yp0 => (intro w hSw; (try dsimp only at hSw); go_simp; try (with_reducible rfl))
            try simp only [Act.put, List.setIfInBounds_toArray, List.set_cons_zero, List.set_cons_succ]
            refine wpAnyH_take (i := 1) (v := ?vp1) (opsS ops0) (by kernel_rfl) (by kernel_rfl) (by kernel_rfl) (fun _ _ _ h => h) (Or.inl ⟨by rfl, ?yp1⟩) hHeldp0 ?_
            case yp1 => (intro w hSw; (try dsimp only at hSw); go_simp; try (with_reducible rfl))
            try simp only [Act.put, List.setIfInBounds_toArray, List.set_cons_zero, List.set_cons_succ]
            refine wpAnyH_take (i := 2) (v := ?vp2) (opsS (opsS ops0)) (by kernel_rfl) (by kernel_rfl) (by kernel_rfl) (fun _ _ _ h => h) (Or.inl ⟨by rfl, ?yp2⟩) hHeldp0 ?_
            case yp2 => (intro w hSw; (try dsimp only at hSw); go_simp; try (with_reducible rfl))
            try simp only [Act.put, List.setIfInBounds_toArray, List.set_cons_zero, List.set_cons_succ]
            refine wpAnyH_take (i := 3) (v := ?vp3) (opsS (opsS (opsS ops0))) (by kernel_rfl) (by kernel_rfl) (by kernel_rfl) (fun _ _ _ h => h) (Or.inl ⟨by rfl, ?yp3⟩) hHeldp0 ?_
            case yp3 => (intro w hSw; (try dsimp only at hSw); go_simp; try (with_reducible rfl))
            try simp only [Act.put, List.setIfInBounds_toArray, List.set_cons_zero, List.set_cons_succ]
            refine wpAnyH_take (i := 4) (v := ?vp4) (opsS (opsS (opsS (opsS ops0)))) (by kernel_rfl) (by kernel_rfl) (by kernel_rfl) (fun _ _ _ h => h) (Or.inl ⟨by rfl, ?yp4⟩) hHeldp0 ?_
            case yp4 => (intro w hSw; (try dsimp only at hSw); go_simp; try (with_reducible rfl))
            try simp only [Act.put, List.setIfInBounds_toArray, List.set_cons_zero, List.set_cons_succ]
            refine wpAnyH_take (i := 5) (v := ?vp5) (opsS (opsS (opsS (opsS (opsS ops0))))) (by kernel_rfl) (by kernel_rfl) (by kernel_rfl) (fun _ _ _ h => h) (Or.inl ⟨by rfl, ?yp5⟩) hHeldp0 ?_
            case yp5 => (intro w hSw; (try dsimp only at hSw); go_simp; try (with_reducible rfl))
            try simp only [Act.put, List.setIfInBounds_toArray, List.set_cons_zero, List.set_cons_succ]
            refine wpAnyH_take (i := 6) (v := ?vp6) (opsS (opsS (opsS (opsS (opsS (opsS ops0)))))) (by kernel_rfl) (by kernel_rfl) (by kernel_rfl) (fun _ _ _ h => h) (Or.inl ⟨by rfl, ?yp6⟩) hHeldp0 ?_
            case yp6 => (intro w hSw; (try dsimp only at hSw); go_simp; try (with_reducible rfl))
            try simp only [Act.put, List.setIfInBounds_toArray, List.set_cons_zero, List.set_cons_succ]
            refine wpAnyH_ready (rs := [7]) (by kernel_rfl) (by simp) ?_
            refine AllReadyH.cons (opsS (opsS (opsS (opsS (opsS (opsS (opsS ops0))))))) (fun K hK => ?_) AllReadyH.nil
            go_simp
            refine (join_any ⟨n, b, v9⟩ ⟨n2, b2, v2⟩ _).mono ?_; rw [HJ.out]; rintro e w' ⟨rfl, hb⟩; have hbx := Lib.hid hb
            try dsimp only
            refine hK.out _ _ ?_ (fun hHeldp1 => ?_)
            · (first | assumption | exact Kg.drew_7 (by assumption) | (go_split_ands; exact Kg.drew_7 (by assumption)) | (go_split_ands; exact Kg.step_7 (by assumption) (by assumption)) | (go_split_ands; exact Kg.alloc_7 (by assumption) _) | (go_split_ands; exact Kg.far_7 (by assumption) (by assumption)))
            clear hK K hHeldp0
            try clear hb
            try simp only [Act.put, List.setIfInBounds_toArray, List.set_cons_zero, List.set_cons_succ]
            refine wpAnyH_take (i := 8) (v := ?vp8) (opsS (opsS (opsS (opsS (opsS (opsS (opsS (opsS ops0)))))))) (by kernel_rfl) (by kernel_rfl) (by kernel_rfl) (fun _ _ _ h => h) (Or.inl ⟨by rfl, ?yp8⟩) hHeldp1 ?_
            case yp8 => (intro w hSw; (try dsimp only at hSw); go_simp; try (with_reducible rfl))
            try simp only [Act.put, List.setIfInBounds_toArray, List.set_cons_zero, List.set_cons_succ]
            refine wpAnyH_ready (rs := [9]) (by kernel_rfl) (by simp) ?_
            refine AllReadyH.cons (opsS (opsS (opsS (opsS (opsS (opsS (opsS (opsS (opsS ops0))))))))) (fun K hK => ?_) AllReadyH.nil
            go_simp
            skip
            try dsimp only
            refine hK.out _ _ ?_ (fun hHeldp2 => ?_)
            · (first | assumption | exact Kg.drew_7 (by assumption) | (go_split_ands; exact Kg.drew_7 (by assumption)) | (go_split_ands; exact Kg.step_7 (by assumption) (by assumption)) | (go_split_ands; exact Kg.alloc_7 (by assumption) _) | (go_split_ands; exact Kg.far_7 (by assumption) (by assumption)))
            clear hK K hHeldp1
            try clear hb
            try simp only [Act.put, List.setIfInBounds_toArray, List.set_cons_zero, List.set_cons_succ]
            refine wpAnyH_ready (rs := [10]) (by kernel_rfl) (by simp) ?_
            refine AllReadyH.cons (opsS (opsS (opsS (opsS (opsS (opsS (opsS (opsS (opsS (opsS ops0)))))))))) (fun K hK => ?_) AllReadyH.nil
            refine step_append_row _ rfl _ _ 22 rfl (g + 2) 35 i0 _ 4 56 Try.underlying22 hi0 hz0 ‹i0.size = 4› ‹i0.bytes = 56› rfl (by decide) _ _ rfl ((hrow3.out.drew.below hbx.out).alloc _) En.len _ ⟨kk, jn, jb, jv⟩ rfl (cells_new _ _ _) (one_E _) (by simp) (by unfold maxLen; simp at hlen; omega) (by simp at hlen; omega) (by have := hbx.out.size; simp at this ⊢; omega) ?_; intro v' w6 hrow6 hgrow6; have hg6 : w5.grownBy w6 u6.ownBlock := only_trans (hHeldp2.2.2.2.2.2.2.2.low) hgrow6
            try dsimp only
            refine hK.out _ _ ?_ (fun hHeldp3 => ?_)
            · (first | assumption | exact Kg.drew_7 (by assumption) | (go_split_ands; exact Kg.drew_7 (by assumption)) | (go_split_ands; exact Kg.step_7 (by assumption) (by assumption)) | (go_split_ands; exact Kg.alloc_7 (by assumption) _) | (go_split_ands; exact Kg.far_7 (by assumption) (by assumption)))
            clear hK K hHeldp2
            try clear hb
            try simp only [Act.put, List.setIfInBounds_toArray, List.set_cons_zero, List.set_cons_succ]
            refine wpAnyH_take (i := 11) (v := ?vp11) (opsS (opsS (opsS (opsS (opsS (opsS (opsS (opsS (opsS (opsS (opsS ops0))))))))))) (by kernel_rfl) (by kernel_rfl) (by kernel_rfl) (fun _ _ _ h => h) (Or.inl ⟨by rfl, ?yp11⟩) hHeldp3 ?_
            case yp11 => (intro w hSw; (try dsimp only at hSw); go_simp; try (with_reducible rfl))
            try simp only [Act.put, List.setIfInBounds_toArray, List.set_cons_zero, List.set_cons_succ]
            refine wpAnyH_done (by kernel_rfl) ?_ _
            have HG6 := Lib.hid hg6
            have HR6 := Lib.hid hrow6
            have hA6 := Lib.hid (hA3.out.grown hg6 (by omega) (fun q' hq => by have := (hrow3.out.own hq).1; omega))
            have hB6 := Lib.hid (hB3.out.grown hg6 (by omega) (fun q' hq => by have := (hrow3.out.own hq).1; omega))
            have hlow6 := Lib.hid (hlow3.out.grown hg6 (by omega) (fun q' hq => by have := (hrow3.out.own hq).1; omega))
            clear hHeldp3 test hg6 hrow6 hgrow6 hbx hA3 hB3 hrow3 hlow3
            go_wp2
            go_roundg (gk - 2)
            case measure => simp at hgk; omega
            case rel => exact ⟨p, q, L ++ [⟨kk, jn, jb, jv⟩], _, _, _, _, by simp at hgk ⊢; omega, hI2, by simp at hlen ⊢; omega, hA6, hB6, HR6, hlow6⟩
end Go.Proofs.Ytdnefcpmechjkaa.rgy
