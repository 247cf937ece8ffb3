/- All rounds, by the reference. -/
import Derived.Test.YtigcfpalmkfoiaaPgE
import Derived.ChangeKeysEq
namespace Go.Proofs.Ytigcfpalmkfoiaa.pg
set_option linter.unusedSimpArgs false
open Go.ChangeShapes Go.WideShapes Go.ChangeAt Go.RowKit Go.Proofs.Aid
theorem RR.app {n₀ : Nat} {X w1 : World} {tmp : Obj} {m : Int} {k : Nat} {s : List Int} {v v' pv : Value} {x : Int} {vs : List Value} (h1 : X.ownsRow n₀ 33 1 v s.length vs)
    (h2 : ∀ i (h : i < s.length), ∃ u, vs[i]? = some u ∧ X.ownsRow n₀ 34 2 u (prs m s[i] k).length ((prs m s[i] k).flatMap pc))
    (hp : X.ownsRow n₀ 34 2 pv (prs m x k).length ((prs m x k).flatMap pc)) (hgrow : (X.alloc tmp).grownBy w1 v.ownBlock) (hr2 : w1.ownsRow n₀ 33 1 v' (s.length + 1) (vs ++ [pv])) : RR n₀ w1 v' m k (s ++ [x]) := by
  have hl : vs.length = s.length := by have := h1.1; omega
  have keep : ∀ (u : Value) (n : Nat) (ys : List Value), X.ownsRow n₀ 34 2 u n ys → w1.ownsRow n₀ 34 2 u n ys := fun u n ys hu => (hu.alloc tmp).kept hgrow (own_ne hu h1 (by decide))
  refine ⟨vs ++ [pv], by simpa using hr2, fun i hi => ?_⟩
  by_cases hi2 : i < s.length
  · obtain ⟨u, hu, ho⟩ := h2 i hi2
    refine ⟨u, by rw [List.getElem?_append_left (by omega)]; exact hu, ?_⟩
    rw [List.getElem_append_left hi2]
    exact keep _ _ _ ho
  · obtain rfl : i = s.length := by simp at hi; omega
    refine ⟨pv, by rw [List.getElem?_append_right (by omega)]; simp [hl], ?_⟩
    rw [List.getElem_append_right (by omega)]
    simpa using keep _ _ _ hp
set_option maxRecDepth 100000 in
set_option maxHeartbeats 8000000 in
theorem rRounds_own (m : Nat) (hm : m ≤ 64) (c : Nat) (hcm : cnt m = c) (hc63 : c ≤ 63) (w : World) :
    Calls Try.prog 13 #[.int .i64 m] w fun e W' => ∃ v, e = .returned v ∧ RR w.heap.size W' v m m (upto c) ∧ Below w.heap.size w W' := by
  obtain ⟨i0, hi0, ha0, ha1, ha2⟩ := info_parts info_pair
  obtain ⟨i1, hi1, hb0, hb1, hb2⟩ := info_parts info_row
  have HC := Lib.hid (fun w => rcount_any m w)
  rw [hcm] at HC
  go_enter Try.func13, Try.ntmps13
  go_wp2_with fail
  go_loopw [3, 4, 5, 6, 7, 8] (fun ov iv _ _ _ _ wr => ∃ j : Nat, j ≤ c ∧ iv = .int .i64 j ∧ RR w.heap.size wr ov m m (upto j) ∧ Below w.heap.size w wr) (fun _ iv _ _ _ _ _ => c - (intOf iv).toNat)
  case atStart => exact ⟨0, Nat.zero_le _, rfl, ⟨[], World.ownsRow_nil _ _ _ _, fun i hi => by simp [upto] at hi⟩, Below.refl _ _⟩
  case round =>
    obtain ⟨j, hj, rfl, hrr, hB⟩ := hrel
    have hsW := hB.size
    by_cases hjc : j < c
    · go_wp2_with fail
      refine (HC.out _).mono ?_
      rintro e w1 ⟨rfl, rfl⟩
      go_wp2
      go_loopw [5, 6, 7, 8] (fun pv iv _ _ wq => ∃ k : Nat, k ≤ m ∧ iv = .int .i64 k ∧ wq.ownsRow w1.heap.size 34 2 pv (prs m j k).length ((prs m j k).flatMap pc) ∧ Below w1.heap.size w1 wq) (fun _ iv _ _ _ => m - (intOf iv).toNat)
      case atStart => exact ⟨0, Nat.zero_le _, rfl, World.ownsRow_nil _ _ _ _, Below.refl _ _⟩
      case round =>
        obtain ⟨k, hk, rfl, hrow, hBl⟩ := hrel
        by_cases hlt2 : k < m
        · have HME := Lib.hid (fun w => rmeets_any m j k w)
          have hh := Lib.hid (@prs_hit m j k)
          have hms := Lib.hid (@prs_miss m j k)
          have hpl := prs_len m j k
          generalize mee m j k = q at *
          obtain ⟨y, b⟩ := q
          simp only at HME hh hms
          cases b with
          | false =>
            have hnext := Lib.hid (hms.out (fun h => by cases h))
            go_wp2_with fail
            refine (HME.out _).mono ?_
            rintro e w2 ⟨rfl, hb⟩
            go_wp2
            go_roundw
            case rel => exact ⟨k + 1, by omega, by simp, by rw [hnext.out]; exact own_below hrow hb (Nat.le_refl _), hBl.trans (hb.mono hBl.size)⟩
            case measure => simp [intOf]; omega
          | true =>
            by_cases hlt3 : (k : Int) < y
            · have hnext := Lib.hid (hh.out rfl hlt3)
              go_wp2_with fail
              refine (HME.out _).mono ?_
              rintro e w2 ⟨rfl, hb⟩
              have hrow2 := own_below hrow hb (Nat.le_refl _)
              have hBl2 := hBl.trans (hb.mono hBl.size)
              have hz2 := hBl2.size
              clear hb hrow hBl
              go_wp2_with (at_builtin; refine wpList_append_own _ rfl _ _ 33 rfl w1.heap.size 34 i0 (.agg #[.int .i64 0, .int .i64 0]) 2 16 Try.underlying33 hi0 ha0 ha1 ha2 rfl (by decide) _ _ _ rfl (hrow2.alloc _) ⟨w2.heap.size, 0, none⟩ 1 1 (pc ((k : Int), y)) rfl rfl (pair_new _ _ _ _) (by simp [pc, Value.oneCell']) (by unfold maxLen; omega) (by omega) (by simp; omega) ?_; intro v' w3 hown' hgrow _; obtain ⟨g', cap', rfl⟩ := ownsRow_succ hown'; obtain ⟨hst1, _⟩ := own_step hrow2 hz2 hgrow)
              go_roundw
              case rel => exact ⟨k + 1, by omega, by simp, by rw [hnext.out]; simpa using hown', hBl2.trans hst1⟩
              case measure => simp [intOf]; omega
            · have hnext := Lib.hid (hms.out (fun _ => hlt3))
              go_wp2_with fail
              refine (HME.out _).mono ?_
              rintro e w2 ⟨rfl, hb⟩
              go_wp2
              go_roundw
              case rel => exact ⟨k + 1, by omega, by simp, by rw [hnext.out]; exact own_below hrow hb (Nat.le_refl _), hBl.trans (hb.mono hBl.size)⟩
              case measure => simp [intOf]; omega
        · obtain rfl : k = m := by omega
          obtain ⟨vs, hr1, hr2⟩ := hrr.below hBl (Nat.le_refl _)
          have hrow0 := own_base hrow hsW
          have hz := hBl.size
          have hul := upto_length j
          obtain ⟨A5, c5, e5⟩ := own_form hrow
          subst e5
          generalize huj : upto j = uj at *
          go_wp2_with (at_builtin; refine wpList_append_own _ rfl _ _ 28 rfl w.heap.size 33 i1 (.slice none 0 0) 1 24 Try.underlying28 hi1 hb0 hb1 hb2 rfl (by decide) _ _ _ rfl (hr1.alloc _) ⟨_, 0, none⟩ 1 1 [Value.slice A5 _ c5] rfl rfl (cell_one_new _ _ _) (by simp [Value.oneCell']) (by unfold maxLen; omega) (by omega) (by simp; omega) ?_; intro v' w3 hown' hgrow _; obtain ⟨g', cap', rfl⟩ := ownsRow_succ hown'; obtain ⟨hst1, _⟩ := own_step hr1 (by omega) hgrow)
          go_roundw
          case rel => exact ⟨j + 1, by omega, by simp, by rw [upto_succ, huj]; have hra := RR.app hr1 hr2 hrow0 hgrow hown'; rw [hul] at hra; exact hra, (hB.trans (hBl.mono hsW)).trans hst1⟩
          case measure => simp [intOf]; omega
    · obtain rfl : j = c := by omega
      go_wp2_with fail
      refine (HC.out _).mono ?_
      rintro e w1 ⟨rfl, rfl⟩
      go_wp2
      go_ret
      exact ⟨_, rfl, hrr, hB⟩
theorem rRounds_any (m : Nat) (hm : m ≤ 64) (w : World) : Calls Try.prog 13 #[.int .i64 m] w fun e W' => ∃ v, e = .returned v ∧ LP W' v (rnds m) ∧ Below w.heap.size w W' := by
  have hc := cnt_bd m
  have e : cnt m = ((cnt m).toNat : Int) := by omega
  refine (rRounds_own m hm (cnt m).toNat e (by omega) w).mono ?_
  rintro e' W' ⟨v, h1, h2, h3⟩
  exact ⟨v, h1, h2.lp, h3⟩
theorem info_int : (Try.prog.info? 3).map (fun i => (i.zero, i.size, i.bytes)) = some (some (.int .i64 0), 1, 8) := by kernel_rfl
theorem eqI (x : Int) (w : World) : (Op.equalIn 9999 3 (.int .i64 x) (.int .i64 x)).run Try.prog w = .ok true w := by
  have := Go.run_equalIn_int w 9998 3 .i64 .i64 x x Try.underlying3
  simpa using this
theorem eqP (x y : Int) (w : World) : (Op.equalIn 10000 34 (.agg #[.int .i64 x, .int .i64 y]) (.agg #[.int .i64 x, .int .i64 y])).run Try.prog w = .ok true w := by
  obtain ⟨i, hi, _⟩ := info_parts info_int
  have p0 : ∀ w, (part 3 #[.int .i64 x, .int .i64 y] 0).run Try.prog w = .ok (.int .i64 x) w := fun w => by kernel_rfl
  have p1 : ∀ w, (part 3 #[.int .i64 x, .int .i64 y] 1).run Try.prog w = .ok (.int .i64 y) w := fun w => by kernel_rfl
  rw [Go.run_equalIn_array w 9999 _ _ Try.underlying34 hi, show List.range 2 = [0, 1] from rfl, c3]
  simp [Op.eqItems, Sem.run_bind, p0, p1, eqI]
theorem neqP_same (x y : Int) (w : World) : (binOp .neq 34 (.agg #[.int .i64 x, .int .i64 y]) (.agg #[.int .i64 x, .int .i64 y])).run Try.prog w = .ok (.bool false) w := by
  have h := eqP x y w
  go_simp
theorem pc_len (p : Int × Int) : (pc p).length = 2 := rfl
theorem elemP {w : World} {B : Nat} {A : Option Addr} {l : List (Int × Int)} (h : Reads w B 2 A l.length (l.flatMap pc)) {i : Nat} (hi : i < l.length) :
    ∃ ad, A = some ad ∧ ad.block < B ∧ w.cell? (ad.add (i * 2)) = some (.int .i64 l[i].1) ∧ w.cell? ⟨(ad.add (i * 2)).block, (ad.add (i * 2)).off + 1, none⟩ = some (.int .i64 l[i].2) := by
  obtain ⟨ad, e, hb, hc⟩ := h.elem pc_len hi
  have x1 : ∀ j, (⟨(ad.add (i * 2)).block, (ad.add (i * 2)).off + (j + 1), none⟩ : Addr) = ad.add (i * 2 + (j + 1)) := fun j => by rw [← add_of_add]; rfl
  refine ⟨ad, e, hb, by simpa using hc 0 _ rfl, ?_⟩
  rw [x1]; exact hc 1 _ rfl
theorem prs_mem_len {m : Nat} {l : List (Int × Int)} (h : l ∈ rnds m) : l.length ≤ m := by
  unfold rnds at h
  obtain ⟨r, _, rfl⟩ := List.mem_map.1 h
  exact prs_len _ _ _
theorem rnds_len (m : Nat) : (rnds m).length ≤ 63 := by
  have := cnt_bd m
  unfold rnds
  rw [List.length_map, upto_length]
  omega
set_option maxRecDepth 100000 in
set_option maxHeartbeats 8000000 in
theorem same_any (w : World) (v v' : Value) (ls : List (List (Int × Int))) (hv : LP w v ls) (hv' : LP w v' ls) (hl : ls.length ≤ 64) (hl2 : ∀ l ∈ ls, l.length ≤ 64) :
    Calls Try.prog 11 #[v, v'] w fun e w' => e = .returned (.bool true) ∧ Below w.heap.size w w' := by
  obtain ⟨A, c, vs, rfl, h1, h2⟩ := hv
  obtain ⟨B, d, us, rfl, h3, h4⟩ := hv'
  have H1 := Lib.hid h1
  have H2 := Lib.hid h2
  have H3 := Lib.hid h3
  have H4 := Lib.hid h4
  have HL2 := Lib.hid hl2
  clear h1 h2 h3 h4 hl2
  go_enter Try.func11, Try.ntmps11
  go_wp2_with fail
  go_loopw [5, 6] (fun iv _ w' => ∃ i : Nat, i ≤ ls.length ∧ iv = .int .i64 i ∧ Hid (Below w.heap.size w w')) (fun iv _ _ => ls.length - (intOf iv).toNat)
  case atStart => exact ⟨0, by omega, rfl, Below.refl _ _⟩
  case round =>
    obtain ⟨i, hi, rfl, hb⟩ := hrel
    by_cases hlt : i < ls.length
    · obtain ⟨A', c', e1, r1⟩ := H2.out i hlt
      obtain ⟨B', d', e2, r2⟩ := H4.out i hlt
      obtain ⟨ad, q1, b1, k1⟩ := H1.out.2 (by omega)
      obtain ⟨bd, q2, b2, k2⟩ := H3.out.2 (by omega)
      have c1 := k1 i _ e1
      have c2 := k2 i _ e2
      have hlen := HL2.out _ (List.getElem_mem hlt)
      have R1 := Lib.hid r1
      have R2 := Lib.hid r2
      clear k1 k2 e1 e2 r1 r2
      generalize ls[i] = l at *
      subst q1 q2
      have c1w := (hb.out.cell (p := ad.add i) (by rw [block_of_add]; exact b1)).trans c1
      have c2w := (hb.out.cell (p := bd.add i) (by rw [block_of_add]; exact b2)).trans c2
      go_wp2_with fail
      go_quiet (fail)
      have hb2 : ∀ n, Hid (Below w.heap.size w (World.drewN _ n)) := fun n => below_drewN hb.out n
      clear c1w c2w
      go_wp2
      go_loopw [6] (fun kv wq => ∃ k : Nat, k ≤ l.length ∧ kv = .int .i64 k ∧ Hid (Below w.heap.size w wq)) (fun kv _ => l.length - (intOf kv).toNat)
      case atStart => exact ⟨0, by omega, rfl, hb2 _⟩
      case round =>
        obtain ⟨k, hk, rfl, hbq⟩ := hrel
        have c1w := (hbq.out.cell (p := ad.add i) (by rw [block_of_add]; exact b1)).trans c1
        have c2w := (hbq.out.cell (p := bd.add i) (by rw [block_of_add]; exact b2)).trans c2
        clear hb2
        by_cases hk2 : k < l.length
        · obtain ⟨p1, q1, g1, a0, a1⟩ := elemP R1.out hk2
          obtain ⟨p2, q2, g2, a2, a3⟩ := elemP R2.out hk2
          subst q1 q2
          have a0w := (hbq.out.cell (p := p1.add (k * 2)) (by rw [block_of_add]; exact g1)).trans a0
          have a1w := (hbq.out.cell (p := ⟨(p1.add (k * 2)).block, (p1.add (k * 2)).off + 1, none⟩) (by show (p1.add (k * 2)).block < _; rw [block_of_add]; exact g1)).trans a1
          have a2w := (hbq.out.cell (p := p2.add (k * 2)) (by rw [block_of_add]; exact g2)).trans a2
          have a3w := (hbq.out.cell (p := ⟨(p2.add (k * 2)).block, (p2.add (k * 2)).off + 1, none⟩) (by show (p2.add (k * 2)).block < _; rw [block_of_add]; exact g2)).trans a3
          clear a0 a1 a2 a3 c1 c2
          generalize l[k] = pr at *
          obtain ⟨x, y⟩ := pr
          simp only at a0w a1w a2w a3w
          have hneq := neqP_same x y
          go_wp2_with fail
          go_quiet (fail)
          have hb3 : ∀ n, Hid (Below w.heap.size w (World.drewN _ n)) := fun n => below_drewN hbq.out n
          go_wp2
          go_roundw
          case rel => exact ⟨k + 1, by omega, by go_num, hb3 _⟩
          case measure => simp [intOf]; omega
        · go_wp2
          go_roundw
          case rel => exact ⟨i + 1, by omega, by go_num, hbq⟩
          case measure => simp [intOf]; omega
    · go_wp2
      go_ret
      exact ⟨rfl, hb.out⟩
end Go.Proofs.Ytigcfpalmkfoiaa.pg
