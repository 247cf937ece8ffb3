/- All rounds, by the package: a range over the iterator, with a loop in its body. -/
import Derived.Test.YtigcfpalmkfoiaaPgC
namespace Go.Proofs.Ytigcfpalmkfoiaa.pg
open Go.RowKit Go.Shelf Go.Proofs.Aid
attribute [local go_sem] Oper.semAt_some
def pc (p : Int × Int) : List Value := [.int .i64 p.1, .int .i64 p.2]
def prs (m r : Int) (k : Nat) : List (Int × Int) := (List.range k).filterMap fun i : Nat => if (mee m r i).2 && decide ((i : Int) < (mee m r i).1) then some ((i : Int), (mee m r i).1) else none
theorem prs_hit {m r : Int} {k : Nat} (h : (mee m r k).2 = true) (h2 : (k : Int) < (mee m r k).1) : prs m r (k + 1) = prs m r k ++ [((k : Int), (mee m r k).1)] := by
  simp [prs, List.range_succ, h, h2]
theorem prs_miss {m r : Int} {k : Nat} (h : (mee m r k).2 = true → ¬ (k : Int) < (mee m r k).1) : prs m r (k + 1) = prs m r k := by
  unfold prs
  rw [List.range_succ, List.filterMap_append]
  by_cases h2 : (mee m r k).2 = true
  · simp [h2, h h2]
  · simp [h2]
theorem prs_len (m r : Int) (k : Nat) : (prs m r k).length ≤ k := by
  have := List.length_filterMap_le (fun i : Nat => if (mee m r i).2 && decide ((i : Int) < (mee m r i).1) then some ((i : Int), (mee m r i).1) else none) (List.range k)
  simpa [prs] using this
/-- The rounds of a list: a row of rows. -/
def RR (n₀ : Nat) (W : World) (v : Value) (m : Int) (k : Nat) (s : List Int) : Prop := ∃ vs, W.ownsRow n₀ 33 1 v s.length vs ∧ ∀ i (h : i < s.length), ∃ u, vs[i]? = some u ∧ W.ownsRow n₀ 34 2 u (prs m s[i] k).length ((prs m s[i] k).flatMap pc)
section
variable {X Y : World} {b e size k : Nat} {v : Value} {xs : List Value}
theorem own_kept {row : Option Nat} (h : X.ownsRow b e size v k xs) (hg : X.grownBy Y row) (hr : ∀ r, row = some r → ∃ o : Obj, X.heap[r]? = some o ∧ o.isCells = false) : Y.ownsRow b e size v k xs := by
  refine h.kept hg ?_
  rcases h.2 with ⟨rfl, _⟩ | ⟨g, cap, cur, rfl, _, hgb, _⟩
  · exact .inl rfl
  · refine .inr fun e' => ?_
    obtain ⟨o, ho, hc⟩ := hr g (by simpa [Value.ownBlock] using e'.symm)
    rw [hgb] at ho; cases ho; cases hc
theorem own_below {B : Nat} (h : X.ownsRow b e size v k xs) (hb : Below B X Y) (hB : X.heap.size ≤ B) : Y.ownsRow b e size v k xs := by
  refine ⟨h.1, ?_⟩
  rcases h.2 with hn | ⟨g, cap, cur, rfl, hbg, hgg, rest⟩
  · exact .inl hn
  · exact .inr ⟨g, cap, cur, rfl, hbg, (hb.block g (Nat.lt_of_lt_of_le (Array.getElem?_eq_some_iff.1 hgg).1 hB)).trans hgg, rest⟩
theorem own_base {b' : Nat} (h : X.ownsRow b e size v k xs) (hb : b' ≤ b) : X.ownsRow b' e size v k xs := by
  refine ⟨h.1, ?_⟩
  rcases h.2 with hn | ⟨g, cap, cur, rfl, hbg, rest⟩
  · exact .inl hn
  · exact .inr ⟨g, cap, cur, rfl, Nat.le_trans hb hbg, rest⟩
theorem own_ne {b' e' size' k' : Nat} {v' : Value} {xs' : List Value} (h : X.ownsRow b e size v k xs) (h' : X.ownsRow b' e' size' v' k' xs') (hne : e ≠ e') : v.ownBlock = none ∨ v.ownBlock ≠ v'.ownBlock := by
  rcases h.2 with ⟨rfl, _⟩ | ⟨g, cap, cur, rfl, _, hgb, _⟩
  · exact .inl rfl
  · refine .inr fun e1 => ?_
    rcases h'.2 with ⟨rfl, _⟩ | ⟨g', cap', cur', rfl, _, hgb', _⟩
    · simp [Value.ownBlock] at e1
    · obtain rfl : g = g' := by simpa [Value.ownBlock] using e1
      rw [hgb] at hgb'
      simp at hgb'
      exact hne hgb'.2
theorem own_step {w1 : World} {tmp : Obj} (h : X.ownsRow b e size v k xs) (hbx : b ≤ X.heap.size) (hgrow : (X.alloc tmp).grownBy w1 v.ownBlock) : Below b X w1 ∧ KeepsOthers X w1 := by
  constructor
  · refine ((Below.refl b X).alloc hbx tmp).grown hgrow (by simp; omega) fun j ej => ?_
    rcases h.2 with ⟨rfl, _⟩ | ⟨g, cap, cur, rfl, hbg, _⟩
    · simp [Value.ownBlock] at ej
    · obtain rfl : g = j := by simpa [Value.ownBlock] using ej
      exact hbg
  · refine (KeepsOthers.alloc X tmp).trans (KeepsOthers.of_grownBy hgrow fun j o ej hj => ?_)
    rcases (h.alloc tmp).2 with ⟨rfl, _⟩ | ⟨g, cap, cur, rfl, _, hgb, _⟩
    · simp [Value.ownBlock] at ej
    · obtain rfl : g = j := by simpa [Value.ownBlock] using ej
      rw [hgb] at hj; cases hj; rfl
end
section
variable {n₀ : Nat} {X Y : World} {v : Value} {m : Int} {k : Nat} {s : List Int}
theorem RR.kept {row : Option Nat} (h : RR n₀ X v m k s) (hg : X.grownBy Y row) (hr : ∀ r, row = some r → ∃ o : Obj, X.heap[r]? = some o ∧ o.isCells = false) : RR n₀ Y v m k s := by
  obtain ⟨vs, h1, h2⟩ := h
  exact ⟨vs, own_kept h1 hg hr, fun i hi => by obtain ⟨u, hu, ho⟩ := h2 i hi; exact ⟨u, hu, own_kept ho hg hr⟩⟩
theorem RR.below {B : Nat} (h : RR n₀ X v m k s) (hb : Below B X Y) (hB : X.heap.size ≤ B) : RR n₀ Y v m k s := by
  obtain ⟨vs, h1, h2⟩ := h
  exact ⟨vs, own_below h1 hb hB, fun i hi => by obtain ⟨u, hu, ho⟩ := h2 i hi; exact ⟨u, hu, own_below ho hb hB⟩⟩
theorem RR.put {w1 : World} {tmp : Obj} {B : Nat} {v' pv : Value} {x : Int} {vs : List Value} (hv : Boxed X B 28 v) (h1 : X.ownsRow n₀ 33 1 v s.length vs)
    (h2 : ∀ i (h : i < s.length), ∃ u, vs[i]? = some u ∧ X.ownsRow n₀ 34 2 u (prs m s[i] k).length ((prs m s[i] k).flatMap pc))
    (hp : X.ownsRow n₀ 34 2 pv (prs m x k).length ((prs m x k).flatMap pc)) (hgrow : (X.alloc tmp).grownBy w1 v.ownBlock)
    (hr2 : (w1.setCell ⟨B, 0, none⟩ v').ownsRow n₀ 33 1 v' (s.length + 1) (vs ++ [pv])) : RR n₀ (w1.setCell ⟨B, 0, none⟩ v') v' m k (s ++ [x]) := by
  have hv1 : Boxed w1 B 28 v := (hv.alloc tmp).kept hgrow (hv.not_row (by decide) h1)
  have hl : vs.length = s.length := by have := h1.1; omega
  have keep : ∀ (u : Value) (n : Nat) (ys : List Value), X.ownsRow n₀ 34 2 u n ys → (w1.setCell ⟨B, 0, none⟩ v').ownsRow n₀ 34 2 u n ys := fun u n ys hu => by
    have hu1 : w1.ownsRow n₀ 34 2 u n ys := (hu.alloc tmp).kept hgrow (own_ne hu h1 (by decide))
    exact hu1.kept (grownBy_setCell' w1 B v') (.inr (hv1.not_row (by decide) hu1).symm)
  refine ⟨vs ++ [pv], by simpa using hr2, fun i hi => ?_⟩
  by_cases hi2 : i < s.length
  · obtain ⟨u, hu, ho⟩ := h2 i hi2
    refine ⟨u, by rw [List.getElem?_append_left (by omega)]; exact hu, ?_⟩
    rw [List.getElem_append_left hi2]
    exact keep _ _ _ ho
  · obtain rfl : i = s.length := by simp at hi; omega
    refine ⟨pv, by rw [List.getElem?_append_right (by omega)]; simp [hl], ?_⟩
    rw [List.getElem_append_right (by omega)]
    simpa using keep _ _ _ hp
end
theorem pair_new (w : World) (t : TypeId) (x y : Int) : ∀ j u, (pc (x, y))[j]? = some u → (w.alloc (.cells #[.int .i64 x, .int .i64 y] t)).cell? (Addr.add ⟨w.heap.size, 0, none⟩ j) = some u := by
  intro j u hu
  have h1 := (Blk.new w t #[.int .i64 x, .int .i64 y]).cell j
  rw [show (Addr.add ⟨w.heap.size, 0, none⟩ j) = ⟨w.heap.size, j, none⟩ by unfold Addr.add; split <;> simp_all, h1]
  simpa [pc] using hu
theorem own_form {X : World} {b e size k : Nat} {v : Value} {xs : List Value} (h : X.ownsRow b e size v k xs) : ∃ A c, v = .slice A k c := by
  rcases h.2 with ⟨rfl, rfl⟩ | ⟨g, cap, cur, rfl, _⟩
  · exact ⟨_, _, rfl⟩
  · exact ⟨_, _, rfl⟩
theorem info_pair : (Try.prog.info? 34).map (fun i => (i.zero, i.size, i.bytes)) = some (some (.agg #[.int .i64 0, .int .i64 0]), 2, 16) := by kernel_rfl
theorem info_row : (Try.prog.info? 33).map (fun i => (i.zero, i.size, i.bytes)) = some (some (.slice none 0 0), 1, 24) := by kernel_rfl
set_option maxRecDepth 100000 in
set_option maxHeartbeats 8000000 in
theorem Rounds_in (m : Nat) (hm : m ≤ 64) (c : Nat) (hcm : cnt m = c) (hc63 : c ≤ 63) (w : World) :
    CallsIn Fence.wide 6 Try.prog 12 #[.int .i64 m] w fun e W' => ∃ v, e = .returned v ∧ RR w.heap.size W' v m m (upto c) ∧ Below w.heap.size w W' := by
  obtain ⟨i0, hi0, ha0, ha1, ha2⟩ := info_parts info_pair
  obtain ⟨i1, hi1, hb0, hb1, hb2⟩ := info_parts info_row
  refine callsIn_of_wp_marks Try.func12 rfl trivial ?_ rfl
  simp only [Try.ntmps12, List.size_toArray, List.length_cons, List.length_nil, Nat.reduceAdd, Nat.reduceSub, Array.replicate_succ, Array.replicate_zero, List.push_toArray, List.append_toArray, List.nil_append, List.cons_append]
  gi_wp2_with (refine ⟨trivial, ?_⟩; gi_at_call 16; refine (rounds_in _ _ _).mono ?_; rintro e w' ⟨rfl, rfl⟩)
  have bM := ((Boxed.new w 3 (.int .i64 m)).alloc (.cells #[.slice none 0 0] 28)).alloc (.cells #[.int .i64 m] 3)
  have bO := (Boxed.new (w.alloc (.cells #[.int .i64 m] 3)) 28 (.slice none 0 0)).alloc (.cells #[.int .i64 m] 3)
  have bN := Boxed.new ((w.alloc (.cells #[.int .i64 m] 3)).alloc (.cells #[.slice none 0 0] 28)) 3 (.int .i64 m)
  simp only [World.size_alloc] at bO bN
  have hB0 : Below w.heap.size w (((w.alloc (.cells #[.int .i64 m] 3)).alloc (.cells #[.slice none 0 0] 28)).alloc (.cells #[.int .i64 m] 3)) := (((Below.refl _ w).alloc (Nat.le_refl _) _).alloc (by simp) _).alloc (by simp; omega) _
  have hsz : (((w.alloc (.cells #[.int .i64 m] 3)).alloc (.cells #[.slice none 0 0] 28)).alloc (.cells #[.int .i64 m] 3)).heap.size = w.heap.size + 3 := by simp
  obtain ⟨W0, hW0⟩ : ∃ W0, ((w.alloc (.cells #[.int .i64 m] 3)).alloc (.cells #[.slice none 0 0] 28)).alloc (.cells #[.int .i64 m] 3) = W0 := ⟨_, rfl⟩
  rw [hW0] at bM bO bN hB0 hsz ⊢
  clear hW0
  refine wpIn_rangeFunc_ownG rfl (by omega) (gf := 17) (lb := #[.pointer (some ⟨w.heap.size + 1 + 1, 0, none⟩)]) rfl trivial (enters_of Try.func17 (by kernel_rfl) rfl)
    (rounds_stops 5 (by omega) (w.heap.size + 1 + 1) w.heap.size m c hcm hc63 W0 (by omega) bN.cell) belowK_t (belowK_b (by omega)) (Below.refl _ _) (fun _ => rfl)
    (fun pre W => ((∃ v, Boxed W (w.heap.size + 1) 28 v ∧ RR w.heap.size W v m m pre) ∧ Boxed W w.heap.size 3 (.int .i64 m)) ∧ Below w.heap.size w W)
    (fun _ _ _ => False)
    (OwnFrom.and (OwnFrom.and (Own.from (fun s X Y row hs hg hr => by
        obtain ⟨v, hv, hrr⟩ := hs
        exact ⟨v, boxed_own _ 28 (fun (_ : Unit) => v) () X Y row hv hg hr, hrr.kept hg hr⟩) _) (Own.from (boxed_own _ _ _) _)) (ownFrom_below (Nat.le_refl _) (by omega)))
    (fun _ _ _ _ _ hs _ _ => hs)
    ⟨⟨⟨_, bO, [], World.ownsRow_nil _ _ _ _, fun i hi => by simp at hi⟩, bM⟩, hB0⟩
    (fun x => { tmps := #[.int .i64 m, .pointer (some ⟨w.heap.size, 0, none⟩), .slice none 0 0, .pointer (some ⟨w.heap.size + 1, 0, none⟩), .int .i64 x, undef, undef, undef, undef, .int .i64 m, .func (.func 17) #[] #[.pointer (some ⟨w.heap.size + 1 + 1, 0, none⟩)], .int .i64 x, undef, undef, undef, undef, undef, undef, undef, undef, undef, undef, undef, undef, undef, undef, undef, undef, undef, undef, undef, undef, undef, undef, undef, undef, undef, undef, undef, undef, undef], defers := [] }) ?assign ?body ?done ?stop
  case assign =>
    intro l x W K hK
    gi_wp2
    exact hK
  case body =>
    rintro l pre x W ⟨⟨⟨v, hv, hrr⟩, hM⟩, hB⟩ hlt
    have cM := hM.cell
    have hsW := hB.size
    gi_wp2
    gi_loopw [5, 6, 7, 8, 13] (fun pv _ _ _ iv wr => ∃ k : Nat, k ≤ m ∧ iv = .int .i64 k ∧ wr.ownsRow W.heap.size 34 2 pv (prs m x k).length ((prs m x k).flatMap pc) ∧ Below W.heap.size W wr ∧ KeepsOthers W wr) (fun _ _ _ _ iv _ => m - (intOf iv).toNat)
    case atStart => exact ⟨0, Nat.zero_le _, rfl, World.ownsRow_nil _ _ _ _, Below.refl _ _, KeepsOthers.refl _⟩
    case round =>
      obtain ⟨k, hk, rfl, hrow, hBl, hKO⟩ := hrel
      have cM' : wr.cell? ⟨w.heap.size, 0, none⟩ = some (.int .i64 m) := (hBl.cell (p := ⟨w.heap.size, 0, none⟩) hM.lt).trans hM.cell
      clear cM
      by_cases hlt2 : k < m
      · have HME := Lib.hid (fun w => meets_any m x k w)
        have hh := Lib.hid (@prs_hit m x k)
        have hms := Lib.hid (@prs_miss m x k)
        have hpl := prs_len m x k
        generalize mee m x k = q at *
        obtain ⟨y, b⟩ := q
        simp only at HME hh hms
        cases b with
        | false =>
          have hnext := Lib.hid (hms.out (fun h => by cases h))
          gi_wp2_with (refine ⟨trivial, ?_⟩; gi_at_call 6; refine (CallsIn.inRound l (callsIn_wide.2 (HME.out _))).mono ?_; rintro e w' ⟨rfl, rfl⟩)
          go_roundw
          case rel => exact ⟨k + 1, by omega, by simp, by rw [hnext.out]; exact hrow, hBl, hKO⟩
          case measure => simp [intOf]; omega
        | true =>
          by_cases hlt3 : (k : Int) < y
          · have hnext := Lib.hid (hh.out rfl hlt3)
            gi_wp2_with (first | (refine ⟨trivial, ?_⟩; gi_at_call 6; refine (CallsIn.inRound l (callsIn_wide.2 (HME.out _))).mono ?_; rintro e w' ⟨rfl, hw'⟩; subst hw') | (gi_at_builtin; refine wpListIn_append_own _ rfl _ _ 33 rfl W.heap.size 34 i0 (.agg #[.int .i64 0, .int .i64 0]) 2 16 Try.underlying33 hi0 ha0 ha1 ha2 rfl (by decide) _ _ _ rfl (hrow.alloc _) ⟨_, 0, none⟩ 1 1 (pc ((k : Int), y)) rfl rfl (pair_new _ _ _ _) (by simp [pc, Value.oneCell']) (by unfold maxLen; omega) (by omega) (by have := hBl.size; simp; omega) ?_; intro v' w1 hown' hgrow _; obtain ⟨g', cap', rfl⟩ := ownsRow_succ hown'; obtain ⟨hst1, hst2⟩ := own_step hrow hBl.size hgrow))
            go_roundw
            case rel => exact ⟨k + 1, by omega, by simp, by rw [hnext.out]; simpa using hown', hBl.trans hst1, hKO.trans hst2⟩
            case measure => simp [intOf]; omega
          · have hnext := Lib.hid (hms.out (fun _ => hlt3))
            gi_wp2_with (refine ⟨trivial, ?_⟩; gi_at_call 6; refine (CallsIn.inRound l (callsIn_wide.2 (HME.out _))).mono ?_; rintro e w' ⟨rfl, rfl⟩)
            go_roundw
            case rel => exact ⟨k + 1, by omega, by simp, by rw [hnext.out]; exact hrow, hBl, hKO⟩
            case measure => simp [intOf]; omega
      · obtain rfl : k = m := by omega
        have hv1 : Boxed wr (w.heap.size + 1) 28 v := (hBl.block _ hv.lt).trans hv
        have hM1 : Boxed wr w.heap.size 3 (.int .i64 k) := (hBl.block _ hM.lt).trans hM
        obtain ⟨vs, hr1, hr2⟩ := hrr.below hBl (Nat.le_refl _)
        have hc1 := hv1.cell
        have hrow0 := own_base hrow hsW
        have hz := hBl.size
        obtain ⟨A5, c5, e5⟩ := own_form hrow
        subst e5
        gi_wp2_with (gi_at_builtin; refine wpListIn_append_own _ rfl _ _ 28 rfl w.heap.size 33 i1 (.slice none 0 0) 1 24 Try.underlying28 hi1 hb0 hb1 hb2 rfl (by decide) _ _ _ rfl (hr1.alloc _) ⟨wr.heap.size, 0, none⟩ 1 1 [Value.slice A5 _ c5] rfl rfl (cell_one_new _ _ _) (by simp [Value.oneCell']) (by unfold maxLen; omega) (by omega) (by simp; omega) ?_; intro v' w1 hown' hgrow _; obtain ⟨g', cap', rfl⟩ := ownsRow_succ hown'; obtain ⟨hb3, hv2, hr3, hk2, hb4⟩ := hv1.appended (by decide) hr1 (by omega) (by omega) hown' hgrow; have hc2 := hb3.cell; have hf2 := hb3.frozen)
        exact ⟨(hKO.trans hk2).from _, (hBl.mono hsW).trans hb4, ⟨⟨⟨_, hv2, RR.put hv1 hr1 hr2 hrow0 hgrow hr3⟩, ((hM1.alloc _).kept hgrow (hM1.not_row (by decide) hr1)).kept (grownBy_setCell' _ _ _) (by simp)⟩, (hB.trans (hBl.mono hsW)).trans hb4⟩⟩
  case done =>
    rintro D ys W hD rfl ⟨⟨⟨v, hv, hrr⟩, _⟩, hB⟩ hK
    have hc := hv.cell
    gi_wp2
    refine ⟨by simp, .inl ⟨_, _, rfl, run_takeDeferred hK, ?_⟩⟩
    exact ⟨_, results_tmp rfl _ _ _, v, rfl, hrr.kept (grownBy_putObj' _ D (.deferred none)) (fun r e => by cases e; exact ⟨_, hK, rfl⟩), hB.trans (belowK_b (w := w) (Nat.le_refl _) W D _ _ (by omega) hK rfl rfl)⟩
  case stop =>
    rintro D c pre W _ _ h _
    exact h.elim
end Go.Proofs.Ytigcfpalmkfoiaa.pg
