/- Clone, Few. -/
import Derived.Test.YtcmidhifhhmfkaaA
namespace Go.Proofs.Ytcmidhifhhmfkaa.disk
open Go.ChangeShapes Go.WideShapes Go.ChangeAt Go.RowKit Go.Proofs.Aid
theorem rowOfOwn {w : World} {base e : Nat} {v : Value} {l : List UInt8} (h : w.ownsRow base e 1 v l.length (bcells l)) : RowB w e v l ∧ ∀ g, v.ownBlock = some g → base ≤ g := by
  rcases h.2 with ⟨rfl, h0⟩ | ⟨g, cap, cur, rfl, hbg, hg, hnc, hcm, hcs, ht⟩
  · exact ⟨.inl ⟨rfl, List.eq_nil_of_length_eq_zero h0⟩, fun g q => by simp [Value.ownBlock] at q⟩
  · refine ⟨.inr ⟨g, cap, cur, (0, 0), rfl, hg, .inl rfl, hnc, by omega, hcm, by simpa using ht⟩, fun q hq => ?_⟩
    simp [Value.ownBlock] at hq; omega
theorem rowReads {w : World} {e : TypeId} {A : Option Addr} {n c : Nat} {l : List UInt8} (h : RowB w e (.slice A n c) l) : Reads w w.heap.size 1 A l.length (bcells l) := by
  rcases h with ⟨q, rfl⟩ | ⟨g, cap, cur, fz, q, hg, _, h1, h2, h3, ht⟩
  · injection q with q _ _; subst q; exact Reads.none_
  · injection q with q _ _; subst q
    refine ⟨by rw [bcells_len]; simp, fun _ => ⟨_, rfl, (Array.getElem?_eq_some_iff.1 hg).1, fun j u hj => ?_⟩⟩
    have hadd : (⟨g, 0, none⟩ : Addr).add j = ⟨g, j, none⟩ := by unfold Addr.add; split <;> simp_all
    rw [hadd, cell_of_row w g j cur e fz hg]
    rw [← ht, List.getElem?_take] at hj
    split at hj
    · simpa using hj
    · cases hj
theorem rowSize {w : World} {e : TypeId} {v : Value} {l : List UInt8} (h : RowB w e v l) : l.length ≤ maxLen := by
  obtain ⟨A, c, _, h1, h2, _⟩ := h.form; omega
structure CL (w0 : World) (p : Nat) (v : Value) (l : List UInt8) (k : Nat) (w : World) : Prop where
  blk : Blk w p 29 #[v, .int .i64 k]
  row : RowB w 5 v l
  low : Below w0.heap.size w0 w
theorem CL.of {w0 : World} {p : Nat} {v : Value} {l : List UInt8} {k : Nat} {w : World} (h : CL w0 p v l k w) : w.cell? ⟨p, 0, none⟩ = some v ∧ w.cell? ⟨p, 1, none⟩ = some (.int .i64 k) ∧ Hid (CL w0 p v l k w) :=
  ⟨by rw [h.blk.cell]; rfl, by rw [h.blk.cell]; rfl, h⟩
theorem CL.drew {w0 : World} {p : Nat} {v : Value} {l : List UInt8} {k : Nat} {w : World} (h : Hid (CL w0 p v l k w)) : w.drew.cell? ⟨p, 0, none⟩ = some v ∧ w.drew.cell? ⟨p, 1, none⟩ = some (.int .i64 k) ∧ Hid (CL w0 p v l k w.drew) :=
  CL.of ⟨h.blk.drew, h.row.kept fun _ _ => rfl, h.low.drew⟩
theorem CL.alloc {w0 : World} {p : Nat} {v : Value} {l : List UInt8} {k : Nat} {w : World} (h : Hid (CL w0 p v l k w)) (o : Obj) : (w.alloc o).cell? ⟨p, 0, none⟩ = some v ∧ (w.alloc o).cell? ⟨p, 1, none⟩ = some (.int .i64 k) ∧ Hid (CL w0 p v l k (w.alloc o)) :=
  CL.of ⟨h.blk.alloc o, h.row.kept fun g hg => Below.heap_alloc w o g (h.row.lt hg), h.low.alloc h.low.size o⟩
theorem CL.grown {w0 : World} {p : Nat} {v : Value} {l : List UInt8} {k : Nat} {w w' : World} (h : Hid (CL w0 p v l k w)) (hg : w.grownBy w' none) : w'.cell? ⟨p, 0, none⟩ = some v ∧ w'.cell? ⟨p, 1, none⟩ = some (.int .i64 k) ∧ Hid (CL w0 p v l k w') :=
  CL.of ⟨h.blk.grown hg (by simp), h.row.kept fun g hq => hg.block g (h.row.lt hq) (by simp), h.low.grown hg h.low.size (by simp)⟩
set_option maxHeartbeats 2000000 in
theorem clone_any {w : World} {p : Nat} {v : Value} {l : List UInt8} {k : Nat} (h : DK w p v l k) (hl : l.length ≤ 140737488355328) : Calls Try.prog 12 #[.pointer (some ⟨p, 0, none⟩)] w fun e w' =>
    ∃ g v2, e = .returned (.pointer (some ⟨g, 0, none⟩)) ∧ DK w' g v2 l k ∧ Below w.heap.size w w' ∧ w.heap.size ≤ g ∧ ∀ q, v2.ownBlock = some q → w.heap.size ≤ q := by
  obtain ⟨i0, hi0, hz0, hz1, hz2⟩ := info_parts info5
  have hle := h.le
  obtain ⟨A, c, rfl, -⟩ := h.row.form
  have test := CL.drew (w0 := w) (p := p) (v := .slice A l.length c) (l := l) (k := k) (w := w) ⟨h.blk, h.row, Below.refl _ _⟩
  clear h
  go_enter Try.func12, Try.ntmps12
  go_wp2_with fail
  refine wp_region_held_drew (S := (fun w' => w'.cell? ⟨p, 0, none⟩ = some (.slice A l.length c) ∧ w'.cell? ⟨p, 1, none⟩ = some (.int .i64 k) ∧ Hid (CL w p (.slice A l.length c) l k w'))) (by kernel_rfl) ?_ (fun hHeldp0 => ?_)
  · exact test
  refine wpAnyH_take (i := 0) (v := ?vp0) ops0 (by kernel_rfl) (by kernel_rfl) (by kernel_rfl) (fun _ _ _ h => h) (Or.inl ⟨by rfl, ?yp0⟩) hHeldp0 ?_
  case yp0 => (intro w hSw; (try dsimp only at hSw); go_simp; try (with_reducible rfl))
  try simp only [Act.put, List.setIfInBounds_toArray, List.set_cons_zero, List.set_cons_succ]
  refine wpAnyH_take (i := 1) (v := ?vp1) (opsS ops0) (by kernel_rfl) (by kernel_rfl) (by kernel_rfl) (fun _ _ _ h => h) (Or.inl ⟨by rfl, ?yp1⟩) hHeldp0 ?_
  case yp1 => (intro w hSw; (try dsimp only at hSw); go_simp; try (with_reducible rfl))
  try simp only [Act.put, List.setIfInBounds_toArray, List.set_cons_zero, List.set_cons_succ]
  refine wpAnyH_take (i := 2) (v := ?vp2) (opsS (opsS ops0)) (by kernel_rfl) (by kernel_rfl) (by kernel_rfl) (fun _ _ _ h => h) (Or.inl ⟨by rfl, ?yp2⟩) hHeldp0 ?_
  case yp2 => (intro w hSw; (try dsimp only at hSw); go_simp; try (with_reducible rfl))
  try simp only [Act.put, List.setIfInBounds_toArray, List.set_cons_zero, List.set_cons_succ]
  refine wpAnyH_take (i := 3) (v := ?vp3) (opsS (opsS (opsS ops0))) (by kernel_rfl) (by kernel_rfl) (by kernel_rfl) (fun _ _ _ h => h) (Or.inl ⟨by rfl, ?yp3⟩) hHeldp0 ?_
  case yp3 => (intro w hSw; (try dsimp only at hSw); go_simp; try (with_reducible rfl))
  try simp only [Act.put, List.setIfInBounds_toArray, List.set_cons_zero, List.set_cons_succ]
  refine wpAnyH_take (i := 5) (v := ?vp5) (opsS (opsS (opsS (opsS (opsS ops0))))) (by kernel_rfl) (by kernel_rfl) (by kernel_rfl) (fun _ _ _ h => h) (Or.inl ⟨by rfl, ?yp5⟩) hHeldp0 ?_
  case yp5 => (intro w hSw; (try dsimp only at hSw); go_simp; try (with_reducible rfl))
  try simp only [Act.put, List.setIfInBounds_toArray, List.set_cons_zero, List.set_cons_succ]
  refine wpAnyH_take (i := 6) (v := ?vp6) (opsS (opsS (opsS (opsS (opsS (opsS ops0)))))) (by kernel_rfl) (by kernel_rfl) (by kernel_rfl) (fun _ _ _ h => h) (Or.inl ⟨by rfl, ?yp6⟩) hHeldp0 ?_
  case yp6 => (intro w hSw; (try dsimp only at hSw); go_simp; try (with_reducible rfl))
  try simp only [Act.put, List.setIfInBounds_toArray, List.set_cons_zero, List.set_cons_succ]
  refine wpAnyH_take (i := 7) (v := ?vp7) (opsS (opsS (opsS (opsS (opsS (opsS (opsS ops0))))))) (by kernel_rfl) (by kernel_rfl) (by kernel_rfl) (fun _ _ _ h => h) (Or.inl ⟨by rfl, ?yp7⟩) hHeldp0 ?_
  case yp7 => (intro w hSw; (try dsimp only at hSw); go_simp; try (with_reducible rfl))
  try simp only [Act.put, List.setIfInBounds_toArray, List.set_cons_zero, List.set_cons_succ]
  refine wpAnyH_take (i := 8) (v := ?vp8) (opsS (opsS (opsS (opsS (opsS (opsS (opsS (opsS ops0)))))))) (by kernel_rfl) (by kernel_rfl) (by kernel_rfl) (fun _ _ _ h => h) (Or.inl ⟨by rfl, ?yp8⟩) hHeldp0 ?_
  case yp8 => (intro w hSw; (try dsimp only at hSw); go_simp; try (with_reducible rfl))
  try simp only [Act.put, List.setIfInBounds_toArray, List.set_cons_zero, List.set_cons_succ]
  refine wpAnyH_ready (rs := [4]) (by kernel_rfl) (by simp) ?_
  refine AllReadyH.cons (opsS (opsS (opsS (opsS ops0)))) (fun K hK => ?_) AllReadyH.nil
  refine step_append_any _ rfl _ _ 27 rfl w.heap.size 5 i0 (.int .u8 0) 1 1 Try.underlying27 hi0 hz0 hz1 hz2 rfl (by decide) (.slice none 0 0) 0 [] rfl (World.ownsRow_nil _ _ _ _) _ A l.length c (bcells l) rfl (rowReads hHeldp0.2.2.out.row) (fun u hu => by simp [bcells] at hu; obtain ⟨b, _, rfl⟩ := hu; rfl) (by unfold maxLen; omega) (by omega) hHeldp0.2.2.out.low.size ?_; intro v' w' hown hgrow hat; have hrB := rowOfOwn (l := l) (by simpa using hown); obtain ⟨A2, c2, hv2, -⟩ := hrB.1.form; subst hv2; clear hown hat
  try dsimp only
  refine hK.out _ _ ?_ (fun hHeldp1 => ?_)
  · (first | assumption | exact CL.drew (by assumption) | (go_split_ands; exact CL.drew (by assumption)) | exact CL.grown (by assumption) (by assumption) | (go_split_ands; exact CL.grown (by assumption) (by assumption)) | (go_split_ands; exact CL.alloc (by assumption) _))
  clear hK K hHeldp0
  try clear hb
  try simp only [Act.put, List.setIfInBounds_toArray, List.set_cons_zero, List.set_cons_succ]
  refine wpAnyH_take (i := 9) (v := ?vp9) (opsS (opsS (opsS (opsS (opsS (opsS (opsS (opsS (opsS ops0))))))))) (by kernel_rfl) (by kernel_rfl) (by kernel_rfl) (fun _ _ _ h => h) (Or.inl ⟨by rfl, ?yp9⟩) hHeldp1 ?_
  case yp9 => (intro w hSw; (try dsimp only at hSw); go_simp; try (with_reducible rfl))
  try simp only [Act.put, List.setIfInBounds_toArray, List.set_cons_zero, List.set_cons_succ]
  refine wpAnyH_ready (rs := [10]) (by kernel_rfl) (by simp) ?_
  refine AllReadyH.cons (opsS (opsS (opsS (opsS (opsS (opsS (opsS (opsS (opsS (opsS ops0)))))))))) (fun K hK => ?_) AllReadyH.nil
  go_simp
  skip
  try dsimp only
  refine hK.out _ _ ?_ (fun hHeldp2 => ?_)
  · (first | assumption | exact CL.drew (by assumption) | (go_split_ands; exact CL.drew (by assumption)) | exact CL.grown (by assumption) (by assumption) | (go_split_ands; exact CL.grown (by assumption) (by assumption)) | (go_split_ands; exact CL.alloc (by assumption) _))
  clear hK K hHeldp1
  try clear hb
  try simp only [Act.put, List.setIfInBounds_toArray, List.set_cons_zero, List.set_cons_succ]
  refine wpAnyH_take (i := 11) (v := ?vp11) (opsS (opsS (opsS (opsS (opsS (opsS (opsS (opsS (opsS (opsS (opsS ops0))))))))))) (by kernel_rfl) (by kernel_rfl) (by kernel_rfl) (fun _ _ _ h => h) (Or.inl ⟨by rfl, ?yp11⟩) hHeldp2 ?_
  case yp11 => (intro w hSw; (try dsimp only at hSw); go_simp; try (with_reducible rfl))
  try simp only [Act.put, List.setIfInBounds_toArray, List.set_cons_zero, List.set_cons_succ]
  refine wpAnyH_done (by kernel_rfl) ?_ _
  have hsz := hgrow.size
  have hfin : DK (w'.alloc (.cells #[.slice A2 l.length c2, .int .i64 k] 29)) w'.heap.size (.slice A2 l.length c2) l k :=
    ⟨Blk.new _ _ _, hrB.1.kept fun g hg => Below.heap_alloc _ _ g (hrB.1.lt hg), hle⟩
  have HF := Lib.hid hfin
  have HL := Lib.hid hHeldp2.2.2.out.low
  clear hfin hHeldp2 test
  go_wp2
  go_ret
  exact ⟨w'.heap.size, .slice A2 l.length c2, rfl, HF.out, HL.out, by simpa using hsz, hrB.2⟩
theorem at3 : ∀ (rs : List R35) (i j : Nat) (h : i < rs.length) (_ : j < 3), (rs.flatMap R35.cells)[i * 3 + j]? = (rs[i].cells)[j]?
  | [], i, j, h, _ => absurd h (by simp)
  | r :: rs, 0, j, h, hj => by
    rw [List.flatMap_cons, List.getElem?_append_left (by rw [R35.len]; omega)]
    simp
  | r :: rs, i + 1, j, h, hj => by
    rw [List.flatMap_cons, List.getElem?_append_right (by rw [R35.len]; omega)]
    have := at3 rs i j (by simpa using h) hj
    rw [R35.len, show (i + 1) * 3 + j - 3 = i * 3 + j by omega, this]
    simp
theorem cellAt {w : World} {B : Nat} {A : Option Addr} {rs : List R35} (h : Reads w B 3 A rs.length (rs.flatMap R35.cells)) {i : Nat} (hi : i < rs.length) :
    ∃ ad, A = some ad ∧ ad.block < B ∧ w.cell? (ad.add (i * 3)) = some (.int .i64 rs[i].kind_) ∧ w.cell? ⟨(ad.add (i * 3)).block, (ad.add (i * 3)).off + 1, none⟩ = some (.string rs[i].s) ∧ w.cell? ⟨(ad.add (i * 3)).block, (ad.add (i * 3)).off + 2, none⟩ = some (.int .i64 rs[i].keep) := by
  obtain ⟨ad, e, hb, hc⟩ := h.2 (by omega)
  have x1 : (⟨(ad.add (i * 3)).block, (ad.add (i * 3)).off + 1, none⟩ : Addr) = ad.add (i * 3 + 1) := by rw [← add_of_add]; rfl
  have x2 : (⟨(ad.add (i * 3)).block, (ad.add (i * 3)).off + 2, none⟩ : Addr) = ad.add (i * 3 + 2) := by rw [← add_of_add]; rfl
  refine ⟨ad, e, hb, hc _ _ (by rw [show i * 3 = i * 3 + 0 by omega, at3 rs i 0 hi (by omega)]; rfl), ?_, ?_⟩
  · rw [x1]; exact hc _ _ (by rw [at3 rs i 1 hi (by omega)]; rfl)
  · rw [x2]; exact hc _ _ (by rw [at3 rs i 2 hi (by omega)]; rfl)
set_option maxHeartbeats 1000000 in
theorem few_any (w : World) (A : Option Addr) (cap : Nat) (rs : List R35) (hm : rs.length ≤ maxLen) (hR : Reads w w.heap.size 3 A rs.length (rs.flatMap R35.cells)) (hs : ∀ r ∈ rs, r.s.size ≤ maxLen) :
    Calls Try.prog 5 #[.slice A rs.length cap] w fun e w' => ∃ b, e = .returned (.bool b) ∧ w' = w ∧ (b = true → rs.length ≤ 40 ∧ ∀ r ∈ rs, r.s.size ≤ 100) := by
  unfold maxLen at hm
  go_enter Try.func5, Try.ntmps5
  go_wp2_with fail
  go_loopw [3] (fun iv w' => ∃ k : Nat, k ≤ rs.length ∧ iv = .int .i64 k ∧ w' = w ∧ k ≤ 40 ∧ Hid (∀ i (h : i < rs.length), i < k → rs[i].s.size ≤ 100)) (fun iv _ => rs.length - (intOf iv).toNat)
  case atStart => exact ⟨0, by omega, rfl, rfl, by omega, fun i _ h => by omega⟩
  case round =>
    obtain ⟨k, hk, rfl, rfl, hk4, hI⟩ := hrel
    by_cases hlt : k < rs.length
    · by_cases h40 : k < 40
      · obtain ⟨ad, rfl, had, e0, e1, e2⟩ := cellAt hR hlt
        clear hR e0 e2
        have hmx : rs[k].s.size ≤ 9223372036854775807 := by have := hs rs[k] (List.getElem_mem hlt); unfold maxLen at this; omega
        have HS := Lib.hid hs
        clear hs
        by_cases hb : rs[k].s.size ≤ 100
        · have hI2 := Lib.hid (show ∀ i (h : i < rs.length), i < k + 1 → rs[i].s.size ≤ 100 from fun i h hi => by
            by_cases e : i < k
            · exact hI.out i h e
            · have : i = k := by omega
              subst this; exact hb)
          generalize rs[k].s = str at *
          go_wp2
          go_roundw
          case rel => exact ⟨k + 1, by omega, by go_num, by trivial, by omega, hI2⟩
          case measure => simp [intOf]; omega
        · generalize rs[k].s = str at *
          go_wp2
          go_ret
          exact ⟨false, rfl, rfl, fun h => by cases h⟩
      · go_wp2
        go_ret
        exact ⟨_, rfl, rfl, fun h => by simp at h; omega⟩
    · have hI2 := Lib.hid (show ∀ r ∈ rs, r.s.size ≤ 100 from fun r hr => by
        obtain ⟨i, hi, rfl⟩ := List.getElem_of_mem hr
        exact hI.out i hi (by omega))
      go_wp2
      go_ret
      exact ⟨_, rfl, rfl, fun _ => ⟨by omega, hI2.out⟩⟩
end Go.Proofs.Ytcmidhifhhmfkaa.disk
