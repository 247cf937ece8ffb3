/- The walk of DiskSure. -/
import Derived.Test.YtcmidhifhhmfkaaD
namespace Go.Proofs.Ytcmidhifhhmfkaa.disk
open Go.ChangeShapes Go.WideShapes Go.ChangeAt Go.RowKit Go.Proofs.Aid
theorem do_keeps (a : AC) (l : List UInt8) (k : Nat) (h4 : a.kind ≠ 4) (hk : k ≤ l.length) :
    k ≤ (a.do_ l k).1.length ∧ (a.do_ l k).1.take k = l.take k ∧ k ≤ (a.do_ l k).2 ∧ (a.do_ l k).2 ≤ (a.do_ l k).1.length ∧ (a.do_ l k).1.length ≤ l.length + a.s.size ∧
    (a.kind = 3 → (a.do_ l k).1.length ≤ l.length ∧ (a.do_ l k).1 = l.take (a.do_ l k).1.length ∧ (a.do_ l k).2 = (a.do_ l k).1.length) := by
  unfold AC.do_
  by_cases h1 : a.kind = 1
  · simp only [if_pos h1]
    refine ⟨by simp; omega, by rw [List.take_append_of_le_length hk], by simp, by simp; omega, by simp, fun h => by omega⟩
  by_cases h2 : a.kind = 2
  · simp only [if_neg h1, if_pos h2]
    exact ⟨hk, by simp, hk, by simp, by simp, fun h => by omega⟩
  by_cases h3 : a.kind = 3
  · simp only [if_neg h1, if_neg h2, if_pos h3]
    have hc := crashK_le (keep := a.keep) hk
    generalize crashK l.length k a.keep = q at *
    have hl : (l.take q).length = q := by simp; omega
    rw [hl]
    refine ⟨hc.2, ?_, hc.2, Nat.le_refl _, by omega, fun _ => ⟨hc.1, rfl, rfl⟩⟩
    rw [List.take_take, Nat.min_eq_left hc.2]
  · simp only [if_neg h1, if_neg h2, if_neg h3, if_neg h4]
    exact ⟨hk, by simp, by simp, hk, by simp, fun h => by omega⟩
theorem OD.drew {W w : World} {p : Nat} {l : List UInt8} {k : Nat} (h : Hid (OD W w p l k)) : Hid (OD W w.drew p l k) := by
  obtain ⟨h1, h2, v, h3, h4⟩ := h
  exact ⟨h1.drew, h2, v, ⟨h3.blk.drew, h3.row.kept fun _ _ => rfl, h3.le⟩, h4⟩
theorem ext_take (l : List UInt8) (k : Nat) : (⟨l.toArray⟩ : ByteArray).extract 0 k = ⟨(l.take k).toArray⟩ := by
  apply ByteArray.ext
  rw [ByteArray.data_extract]
  simp [List.extract_toArray]
set_option maxRecDepth 100000 in
set_option maxHeartbeats 4000000 in
theorem sure_walk (W : World) (A : Option Addr) (cap : Nat) (rs : List R35) (hm : rs.length ≤ maxLen) (hR : Reads W W.heap.size 3 A rs.length (rs.flatMap R35.cells)) (hs : ∀ r ∈ rs, r.s.size ≤ maxLen) :
    Calls Try.prog 4 #[.slice A rs.length cap] W fun e w' => e = .returned (.bool true) ∧ Below W.heap.size W w' := by
  have HS := Lib.hid hs
  have HR := Lib.hid hR
  have HM := Lib.hid hm
  clear hs hR hm
  go_enter Try.func4, Try.ntmps4
  go_wp2_with fail
  refine (few_any _ A cap rs HM.out HR.out HS.out).mono ?_
  rintro e w' ⟨b, rfl, rfl, hb⟩
  cases b
  · clear hb
    go_wp2_with fail
    refine (awake_any _).mono ?_
    rintro e w2 ⟨rfl, hb⟩
    go_wp2
    go_ret
    exact ⟨rfl, hb⟩
  · obtain ⟨hn, hr⟩ := hb rfl
    have Hr := Lib.hid hr
    clear hb hr
    go_wp2_with fail
    refine (new_any _).mono ?_
    rintro e w1 ⟨rfl, hw⟩
    have h := OD.new (Below.refl w'.heap.size w')
    rw [← hw] at h
    clear hw
    generalize hp : w'.heap.size = p at h ⊢
    have h1 := Lib.hid h
    clear h
    go_wp2_with fail
    go_loopw [4, 5, 6, 7] (fun iv _ _ _ w => ∃ (i : Nat) (l : List UInt8) (k : Nat), i ≤ rs.length ∧ iv = .int .i64 i ∧ Hid (OD w' w p l k) ∧ l.length ≤ 100 * i) (fun iv _ _ _ _ => rs.length - (intOf iv).toNat)
    case atStart => exact ⟨0, [], 0, by omega, rfl, h1, by simp⟩
    case round =>
      obtain ⟨i, l, k, hi, rfl, hod, hlen⟩ := hrel
      clear h1
      by_cases hlt : i < rs.length
      · have HR' := Lib.hid (HR.out.below hod.out.low)
        obtain ⟨ad, rfl, had, e0, e1, e2⟩ := cellAt HR'.out hlt
        have hsz := Hr.out rs[i] (List.getElem_mem hlt)
        generalize hr : rs[i] = r at *
        obtain ⟨kind, s, keep⟩ := r
        simp only at e0 e1 e2 hsz
        by_cases h4 : kind = 4
        · subst h4
          clear e1 e2
          go_wp2_with fail
          refine (awake_any _).mono ?_
          rintro e w2 ⟨rfl, hb⟩
          have HL := Lib.hid (hod.out.low.trans (hb.mono hod.out.low.size))
          clear hb
          go_wp2
          go_ret
          exact ⟨rfl, HL.out⟩
        · have hkeep := Lib.hid (do_keeps ⟨kind, s, keep⟩ l k h4 hod.out.le)
          have hle := hod.out.le
          have h4' : (kind == 4) = false := by simpa using h4
          go_wp2_with fail
          refine (hod.out.bytes).mono ?_
          rintro e w2 ⟨rfl, rfl⟩
          go_wp2_with fail
          refine (hod.out.sure).mono ?_
          rintro e w3 ⟨rfl, rfl⟩
          go_wp2_with fail
          refine (hod.out.do_ ⟨kind, s, keep⟩ (by simp only; omega)).mono ?_
          generalize AC.do_ ⟨kind, s, keep⟩ l k = X at *
          obtain ⟨l', k'⟩ := X
          simp only at hkeep ⊢
          rintro e w4 ⟨rfl, hod'⟩
          have hod2 := Lib.hid hod'
          clear hod' e0 e1 e2
          go_wp2_with fail
          refine (hod2.out.bytes).mono ?_
          rintro e w5 ⟨rfl, rfl⟩
          obtain ⟨k1, k2, k3, k4, k5, k6⟩ := hkeep.out
          clear hkeep
          have x0 := ext_take l' k
          rw [k2, ← ext_take l k] at x0
          have x3 : kind = 3 → (⟨l'.toArray⟩ : ByteArray) = (⟨l.toArray⟩ : ByteArray).extract 0 l'.length := fun h => by rw [ext_take, ← (k6 h).2.1]
          have z1 : (⟨l.toArray⟩ : ByteArray).size = l.length := by simp [ByteArray.size]
          have z2 : (⟨l'.toArray⟩ : ByteArray).size = l'.length := by simp [ByteArray.size]
          generalize (⟨l.toArray⟩ : ByteArray) = was at *
          generalize (⟨l'.toArray⟩ : ByteArray) = now at *
          have X3 := Lib.hid x3
          have K6 := Lib.hid k6
          clear x3 k6 k2
          have n1 : decide (l.length < k) = false := by simpa using hle
          have n2 : decide (l'.length < k) = false := by simpa using k1
          have n3 : decide (k' < k) = false := by simpa using k3
          have n4 : decide (l'.length < k') = false := by simpa using k4
          have test := OD.drew hod2
          go_wp2_with fail
          refine wp_region_held_drew (S := (fun w => Hid (OD w' w p l' k'))) (by kernel_rfl) ?_ (fun hHeldp0 => ?_)
          · exact test
          refine wpAnyH_take (i := 0) (v := ?vp0) ops0 (by kernel_rfl) (by kernel_rfl) (by kernel_rfl) (fun _ _ _ h => h) (Or.inl ⟨by rfl, ?yp0⟩) hHeldp0 ?_
          case yp0 => (intro w hSw; (try dsimp only at hSw); go_simp; try (with_reducible rfl))
          try simp only [Act.put, List.setIfInBounds_toArray, List.set_cons_zero, List.set_cons_succ]
          refine wpAnyH_take (i := 1) (v := ?vp1) (opsS ops0) (by kernel_rfl) (by kernel_rfl) (by kernel_rfl) (fun _ _ _ h => h) (Or.inl ⟨by rfl, ?yp1⟩) hHeldp0 ?_
          case yp1 => (intro w hSw; (try dsimp only at hSw); go_simp; try (with_reducible rfl))
          try simp only [Act.put, List.setIfInBounds_toArray, List.set_cons_zero, List.set_cons_succ]
          refine wpAnyH_take (i := 2) (v := ?vp2) (opsS (opsS ops0)) (by kernel_rfl) (by kernel_rfl) (by kernel_rfl) (fun _ _ _ h => h) (Or.inl ⟨by rfl, ?yp2⟩) hHeldp0 ?_
          case yp2 => (intro w hSw; (try dsimp only at hSw); go_simp; try (with_reducible rfl))
          try simp only [Act.put, List.setIfInBounds_toArray, List.set_cons_zero, List.set_cons_succ]
          refine wpAnyH_take (i := 3) (v := ?vp3) (opsS (opsS (opsS ops0))) (by kernel_rfl) (by kernel_rfl) (by kernel_rfl) (fun _ _ _ h => h) (Or.inl ⟨by rfl, ?yp3⟩) hHeldp0 ?_
          case yp3 => (intro w hSw; (try dsimp only at hSw); go_simp; try (with_reducible rfl))
          try simp only [Act.put, List.setIfInBounds_toArray, List.set_cons_zero, List.set_cons_succ]
          refine wpAnyH_take (i := 4) (v := ?vp4) (opsS (opsS (opsS (opsS ops0)))) (by kernel_rfl) (by kernel_rfl) (by kernel_rfl) (fun _ _ _ h => h) (Or.inl ⟨by rfl, ?yp4⟩) hHeldp0 ?_
          case yp4 => (intro w hSw; (try dsimp only at hSw); go_simp; try (with_reducible rfl))
          try simp only [Act.put, List.setIfInBounds_toArray, List.set_cons_zero, List.set_cons_succ]
          refine wpAnyH_take (i := 5) (v := ?vp5) (opsS (opsS (opsS (opsS (opsS ops0))))) (by kernel_rfl) (by kernel_rfl) (by kernel_rfl) (fun _ _ _ h => h) (Or.inl ⟨by rfl, ?yp5⟩) hHeldp0 ?_
          case yp5 => (intro w hSw; (try dsimp only at hSw); go_simp; try (with_reducible rfl))
          try simp only [Act.put, List.setIfInBounds_toArray, List.set_cons_zero, List.set_cons_succ]
          refine wpAnyH_take (i := 6) (v := ?vp6) (opsS (opsS (opsS (opsS (opsS (opsS ops0)))))) (by kernel_rfl) (by kernel_rfl) (by kernel_rfl) (fun _ _ _ h => h) (Or.inl ⟨by rfl, ?yp6⟩) hHeldp0 ?_
          case yp6 => (intro w hSw; (try dsimp only at hSw); go_simp; try (with_reducible rfl))
          try simp only [Act.put, List.setIfInBounds_toArray, List.set_cons_zero, List.set_cons_succ]
          refine wpAnyH_take (i := 7) (v := ?vp7) (opsS (opsS (opsS (opsS (opsS (opsS (opsS ops0))))))) (by kernel_rfl) (by kernel_rfl) (by kernel_rfl) (fun _ _ _ h => h) (Or.inl ⟨by rfl, ?yp7⟩) hHeldp0 ?_
          case yp7 => (intro w hSw; (try dsimp only at hSw); go_simp; try (with_reducible rfl))
          try simp only [Act.put, List.setIfInBounds_toArray, List.set_cons_zero, List.set_cons_succ]
          refine wpAnyH_take (i := 8) (v := ?vp8) (opsS (opsS (opsS (opsS (opsS (opsS (opsS (opsS ops0)))))))) (by kernel_rfl) (by kernel_rfl) (by kernel_rfl) (fun _ _ _ h => h) (Or.inl ⟨by rfl, ?yp8⟩) hHeldp0 ?_
          case yp8 => (intro w hSw; (try dsimp only at hSw); go_simp; try (with_reducible rfl))
          try simp only [Act.put, List.setIfInBounds_toArray, List.set_cons_zero, List.set_cons_succ]
          refine wpAnyH_take (i := 9) (v := ?vp9) (opsS (opsS (opsS (opsS (opsS (opsS (opsS (opsS (opsS ops0))))))))) (by kernel_rfl) (by kernel_rfl) (by kernel_rfl) (fun _ _ _ h => h) (Or.inl ⟨by rfl, ?yp9⟩) hHeldp0 ?_
          case yp9 => (intro w hSw; (try dsimp only at hSw); go_simp; try (with_reducible rfl))
          try simp only [Act.put, List.setIfInBounds_toArray, List.set_cons_zero, List.set_cons_succ]
          refine wpAnyH_take (i := 10) (v := ?vp10) (opsS (opsS (opsS (opsS (opsS (opsS (opsS (opsS (opsS (opsS ops0)))))))))) (by kernel_rfl) (by kernel_rfl) (by kernel_rfl) (fun _ _ _ h => h) (Or.inl ⟨by rfl, ?yp10⟩) hHeldp0 ?_
          case yp10 => (intro w hSw; (try dsimp only at hSw); go_simp; try (with_reducible rfl))
          try simp only [Act.put, List.setIfInBounds_toArray, List.set_cons_zero, List.set_cons_succ]
          refine wpAnyH_take (i := 11) (v := ?vp11) (opsS (opsS (opsS (opsS (opsS (opsS (opsS (opsS (opsS (opsS (opsS ops0))))))))))) (by kernel_rfl) (by kernel_rfl) (by kernel_rfl) (fun _ _ _ h => h) (Or.inl ⟨by rfl, ?yp11⟩) hHeldp0 ?_
          case yp11 => (intro w hSw; (try dsimp only at hSw); go_simp; try (with_reducible rfl))
          try simp only [Act.put, List.setIfInBounds_toArray, List.set_cons_zero, List.set_cons_succ]
          refine wpAnyH_take (i := 12) (v := ?vp12) (opsS (opsS (opsS (opsS (opsS (opsS (opsS (opsS (opsS (opsS (opsS (opsS ops0)))))))))))) (by kernel_rfl) (by kernel_rfl) (by kernel_rfl) (fun _ _ _ h => h) (Or.inl ⟨by rfl, ?yp12⟩) hHeldp0 ?_
          case yp12 => (intro w hSw; (try dsimp only at hSw); go_simp; try (with_reducible rfl))
          try simp only [Act.put, List.setIfInBounds_toArray, List.set_cons_zero, List.set_cons_succ]
          refine wpAnyH_take (i := 13) (v := ?vp13) (opsS (opsS (opsS (opsS (opsS (opsS (opsS (opsS (opsS (opsS (opsS (opsS (opsS ops0))))))))))))) (by kernel_rfl) (by kernel_rfl) (by kernel_rfl) (fun _ _ _ h => h) (Or.inl ⟨by rfl, ?yp13⟩) hHeldp0 ?_
          case yp13 => (intro w hSw; (try dsimp only at hSw); go_simp; try (with_reducible rfl))
          try simp only [Act.put, List.setIfInBounds_toArray, List.set_cons_zero, List.set_cons_succ]
          refine wpAnyH_take (i := 14) (v := ?vp14) (opsS (opsS (opsS (opsS (opsS (opsS (opsS (opsS (opsS (opsS (opsS (opsS (opsS (opsS ops0)))))))))))))) (by kernel_rfl) (by kernel_rfl) (by kernel_rfl) (fun _ _ _ h => h) (Or.inl ⟨by rfl, ?yp14⟩) hHeldp0 ?_
          case yp14 => (intro w hSw; (try dsimp only at hSw); go_simp; try (with_reducible rfl))
          try simp only [Act.put, List.setIfInBounds_toArray, List.set_cons_zero, List.set_cons_succ]
          refine wpAnyH_take (i := 15) (v := ?vp15) (opsS (opsS (opsS (opsS (opsS (opsS (opsS (opsS (opsS (opsS (opsS (opsS (opsS (opsS (opsS ops0))))))))))))))) (by kernel_rfl) (by kernel_rfl) (by kernel_rfl) (fun _ _ _ h => h) (Or.inl ⟨by rfl, ?yp15⟩) hHeldp0 ?_
          case yp15 => (intro w hSw; (try dsimp only at hSw); go_simp; try (with_reducible rfl))
          try simp only [Act.put, List.setIfInBounds_toArray, List.set_cons_zero, List.set_cons_succ]
          refine wpAnyH_take (i := 16) (v := ?vp16) (opsS (opsS (opsS (opsS (opsS (opsS (opsS (opsS (opsS (opsS (opsS (opsS (opsS (opsS (opsS (opsS ops0)))))))))))))))) (by kernel_rfl) (by kernel_rfl) (by kernel_rfl) (fun _ _ _ h => h) (Or.inl ⟨by rfl, ?yp16⟩) hHeldp0 ?_
          case yp16 => (intro w hSw; (try dsimp only at hSw); go_simp; try (with_reducible rfl))
          try simp only [Act.put, List.setIfInBounds_toArray, List.set_cons_zero, List.set_cons_succ]
          refine wpAnyH_take (i := 17) (v := ?vp17) (opsS (opsS (opsS (opsS (opsS (opsS (opsS (opsS (opsS (opsS (opsS (opsS (opsS (opsS (opsS (opsS (opsS ops0))))))))))))))))) (by kernel_rfl) (by kernel_rfl) (by kernel_rfl) (fun _ _ _ h => h) (Or.inl ⟨by rfl, ?yp17⟩) hHeldp0 ?_
          case yp17 => (intro w hSw; (try dsimp only at hSw); go_simp; try (with_reducible rfl))
          try simp only [Act.put, List.setIfInBounds_toArray, List.set_cons_zero, List.set_cons_succ]
          refine wpAnyH_take (i := 18) (v := ?vp18) (opsS (opsS (opsS (opsS (opsS (opsS (opsS (opsS (opsS (opsS (opsS (opsS (opsS (opsS (opsS (opsS (opsS (opsS ops0)))))))))))))))))) (by kernel_rfl) (by kernel_rfl) (by kernel_rfl) (fun _ _ _ h => h) (Or.inl ⟨by rfl, ?yp18⟩) hHeldp0 ?_
          case yp18 => (intro w hSw; (try dsimp only at hSw); go_simp; try (with_reducible rfl))
          try simp only [Act.put, List.setIfInBounds_toArray, List.set_cons_zero, List.set_cons_succ]
          refine wpAnyH_take (i := 19) (v := ?vp19) (opsS (opsS (opsS (opsS (opsS (opsS (opsS (opsS (opsS (opsS (opsS (opsS (opsS (opsS (opsS (opsS (opsS (opsS (opsS ops0))))))))))))))))))) (by kernel_rfl) (by kernel_rfl) (by kernel_rfl) (fun _ _ _ h => h) (Or.inl ⟨by rfl, ?yp19⟩) hHeldp0 ?_
          case yp19 => (intro w hSw; (try dsimp only at hSw); go_simp; try (with_reducible rfl))
          try simp only [Act.put, List.setIfInBounds_toArray, List.set_cons_zero, List.set_cons_succ]
          refine wpAnyH_take (i := 20) (v := ?vp20) (opsS (opsS (opsS (opsS (opsS (opsS (opsS (opsS (opsS (opsS (opsS (opsS (opsS (opsS (opsS (opsS (opsS (opsS (opsS (opsS ops0)))))))))))))))))))) (by kernel_rfl) (by kernel_rfl) (by kernel_rfl) (fun _ _ _ h => h) (Or.inl ⟨by rfl, ?yp20⟩) hHeldp0 ?_
          case yp20 => (intro w hSw; (try dsimp only at hSw); go_simp; try (with_reducible rfl))
          try simp only [Act.put, List.setIfInBounds_toArray, List.set_cons_zero, List.set_cons_succ]
          refine wpAnyH_take (i := 22) (v := ?vp22) (opsS (opsS (opsS (opsS (opsS (opsS (opsS (opsS (opsS (opsS (opsS (opsS (opsS (opsS (opsS (opsS (opsS (opsS (opsS (opsS (opsS (opsS ops0)))))))))))))))))))))) (by kernel_rfl) (by kernel_rfl) (by kernel_rfl) (fun _ _ _ h => h) (Or.inl ⟨by rfl, ?yp22⟩) hHeldp0 ?_
          case yp22 => (intro w hSw; (try dsimp only at hSw); go_simp; try (with_reducible rfl))
          try simp only [Act.put, List.setIfInBounds_toArray, List.set_cons_zero, List.set_cons_succ]
          refine wpAnyH_ready (rs := [21]) (by kernel_rfl) (by simp) ?_
          refine AllReadyH.cons (opsS (opsS (opsS (opsS (opsS (opsS (opsS (opsS (opsS (opsS (opsS (opsS (opsS (opsS (opsS (opsS (opsS (opsS (opsS (opsS (opsS ops0))))))))))))))))))))) (fun K hK => ?_) AllReadyH.nil
          go_simp
          refine (OD.sure (W := w') (l := l') (k := k') (Hid.out (by assumption))).mono ?_; rintro e w6 ⟨rfl, rfl⟩
          try dsimp only
          refine hK.out _ _ ?_ (fun hHeldp1 => ?_)
          · (first | assumption | exact OD.drew (by assumption))
          clear hK K hHeldp0
          try clear hb
          try simp only [Act.put, List.setIfInBounds_toArray, List.set_cons_zero, List.set_cons_succ]
          refine wpAnyH_take (i := 23) (v := ?vp23) (opsS (opsS (opsS (opsS (opsS (opsS (opsS (opsS (opsS (opsS (opsS (opsS (opsS (opsS (opsS (opsS (opsS (opsS (opsS (opsS (opsS (opsS (opsS ops0))))))))))))))))))))))) (by kernel_rfl) (by kernel_rfl) (by kernel_rfl) (fun _ _ _ h => h) (Or.inl ⟨by rfl, ?yp23⟩) hHeldp1 ?_
          case yp23 => (intro w hSw; (try dsimp only at hSw); go_simp; try (with_reducible rfl))
          try simp only [Act.put, List.setIfInBounds_toArray, List.set_cons_zero, List.set_cons_succ]
          refine wpAnyH_take (i := 24) (v := ?vp24) (opsS (opsS (opsS (opsS (opsS (opsS (opsS (opsS (opsS (opsS (opsS (opsS (opsS (opsS (opsS (opsS (opsS (opsS (opsS (opsS (opsS (opsS (opsS (opsS ops0)))))))))))))))))))))))) (by kernel_rfl) (by kernel_rfl) (by kernel_rfl) (fun _ _ _ h => h) (Or.inl ⟨by rfl, ?yp24⟩) hHeldp1 ?_
          case yp24 => (intro w hSw; (try dsimp only at hSw); go_simp; try (with_reducible rfl))
          try simp only [Act.put, List.setIfInBounds_toArray, List.set_cons_zero, List.set_cons_succ]
          refine wpAnyH_take (i := 25) (v := ?vp25) (opsS (opsS (opsS (opsS (opsS (opsS (opsS (opsS (opsS (opsS (opsS (opsS (opsS (opsS (opsS (opsS (opsS (opsS (opsS (opsS (opsS (opsS (opsS (opsS (opsS ops0))))))))))))))))))))))))) (by kernel_rfl) (by kernel_rfl) (by kernel_rfl) (fun _ _ _ h => h) (Or.inl ⟨by rfl, ?yp25⟩) hHeldp1 ?_
          case yp25 => (intro w hSw; (try dsimp only at hSw); go_simp; try (with_reducible rfl))
          try simp only [Act.put, List.setIfInBounds_toArray, List.set_cons_zero, List.set_cons_succ]
          refine wpAnyH_take (i := 26) (v := ?vp26) (opsS (opsS (opsS (opsS (opsS (opsS (opsS (opsS (opsS (opsS (opsS (opsS (opsS (opsS (opsS (opsS (opsS (opsS (opsS (opsS (opsS (opsS (opsS (opsS (opsS (opsS ops0)))))))))))))))))))))))))) (by kernel_rfl) (by kernel_rfl) (by kernel_rfl) (fun _ _ _ h => h) (Or.inl ⟨by rfl, ?yp26⟩) hHeldp1 ?_
          case yp26 => (intro w hSw; (try dsimp only at hSw); go_simp; try (with_reducible rfl))
          try simp only [Act.put, List.setIfInBounds_toArray, List.set_cons_zero, List.set_cons_succ]
          refine wpAnyH_take (i := 28) (v := ?vp28) (opsS (opsS (opsS (opsS (opsS (opsS (opsS (opsS (opsS (opsS (opsS (opsS (opsS (opsS (opsS (opsS (opsS (opsS (opsS (opsS (opsS (opsS (opsS (opsS (opsS (opsS (opsS (opsS ops0)))))))))))))))))))))))))))) (by kernel_rfl) (by kernel_rfl) (by kernel_rfl) (fun _ _ _ h => h) (Or.inl ⟨by rfl, ?yp28⟩) hHeldp1 ?_
          case yp28 => (intro w hSw; (try dsimp only at hSw); go_simp; try (with_reducible rfl))
          try simp only [Act.put, List.setIfInBounds_toArray, List.set_cons_zero, List.set_cons_succ]
          refine wpAnyH_take (i := 29) (v := ?vp29) (opsS (opsS (opsS (opsS (opsS (opsS (opsS (opsS (opsS (opsS (opsS (opsS (opsS (opsS (opsS (opsS (opsS (opsS (opsS (opsS (opsS (opsS (opsS (opsS (opsS (opsS (opsS (opsS (opsS ops0))))))))))))))))))))))))))))) (by kernel_rfl) (by kernel_rfl) (by kernel_rfl) (fun _ _ _ h => h) (Or.inl ⟨by rfl, ?yp29⟩) hHeldp1 ?_
          case yp29 => (intro w hSw; (try dsimp only at hSw); go_simp; try (with_reducible rfl))
          try simp only [Act.put, List.setIfInBounds_toArray, List.set_cons_zero, List.set_cons_succ]
          refine wpAnyH_ready (rs := [27]) (by kernel_rfl) (by simp) ?_
          refine AllReadyH.cons (opsS (opsS (opsS (opsS (opsS (opsS (opsS (opsS (opsS (opsS (opsS (opsS (opsS (opsS (opsS (opsS (opsS (opsS (opsS (opsS (opsS (opsS (opsS (opsS (opsS (opsS (opsS ops0))))))))))))))))))))))))))) (fun K hK => ?_) AllReadyH.nil
          go_simp
          refine (OD.sure (W := w') (l := l') (k := k') (Hid.out (by assumption))).mono ?_; rintro e w6 ⟨rfl, rfl⟩
          try dsimp only
          refine hK.out _ _ ?_ (fun hHeldp2 => ?_)
          · (first | assumption | exact OD.drew (by assumption))
          clear hK K hHeldp1
          try clear hb
          try simp only [Act.put, List.setIfInBounds_toArray, List.set_cons_zero, List.set_cons_succ]
          refine wpAnyH_take (i := 30) (v := ?vp30) (opsS (opsS (opsS (opsS (opsS (opsS (opsS (opsS (opsS (opsS (opsS (opsS (opsS (opsS (opsS (opsS (opsS (opsS (opsS (opsS (opsS (opsS (opsS (opsS (opsS (opsS (opsS (opsS (opsS (opsS ops0)))))))))))))))))))))))))))))) (by kernel_rfl) (by kernel_rfl) (by kernel_rfl) (fun _ _ _ h => h) (Or.inl ⟨by rfl, ?yp30⟩) hHeldp2 ?_
          case yp30 => (intro w hSw; (try dsimp only at hSw); go_simp; try (with_reducible rfl))
          try simp only [Act.put, List.setIfInBounds_toArray, List.set_cons_zero, List.set_cons_succ]
          refine wpAnyH_take (i := 31) (v := ?vp31) (opsS (opsS (opsS (opsS (opsS (opsS (opsS (opsS (opsS (opsS (opsS (opsS (opsS (opsS (opsS (opsS (opsS (opsS (opsS (opsS (opsS (opsS (opsS (opsS (opsS (opsS (opsS (opsS (opsS (opsS (opsS ops0))))))))))))))))))))))))))))))) (by kernel_rfl) (by kernel_rfl) (by kernel_rfl) (fun _ _ _ h => h) (Or.inl ⟨by rfl, ?yp31⟩) hHeldp2 ?_
          case yp31 => (intro w hSw; (try dsimp only at hSw); go_simp; try (with_reducible rfl))
          try simp only [Act.put, List.setIfInBounds_toArray, List.set_cons_zero, List.set_cons_succ]
          refine wpAnyH_done (by kernel_rfl) ?_ _
          have hod3 := hHeldp2
          clear hHeldp2 test hod2 hod HR' x0 n1 n2 n3 n4
          have HR3 := Lib.hid (HR.out.below hod3.out.low)
          obtain ⟨ad3, q3, _, e0, -, -⟩ := cellAt HR3.out hlt
          injection q3 with q3; subst q3
          rw [hr] at e0
          simp only at e0
          clear HR3
          have HLen := Lib.hid (show l'.length ≤ 100 * (i + 1) by omega)
          by_cases h3 : kind = 3
          · subst h3
            obtain ⟨y1, y2, y3⟩ := K6.out rfl
            have Y2 := X3.out rfl
            clear K6 X3 y2
            subst y3
            have n1 : decide (l.length < l'.length) = false := by simpa using y1
            go_wp2_with fail
            refine (hod3.out.sure).mono ?_
            rintro e w6 ⟨rfl, rfl⟩
            clear hr h4 h4' z1 k1 k3 k4 k5 hle hlen n1 Y2 y1 e0
            go_wp2
            go_roundw
            case rel => exact ⟨i + 1, l', l'.length, by omega, by go_num, hod3, HLen.out⟩
            case measure => simp [intOf]; omega
          · have h3' : (kind == 3) = false := by simpa using h3
            clear K6 X3 hr h4 h4' z1 z2 k1 k3 k4 k5 hle hlen
            go_wp2
            go_roundw
            case rel => exact ⟨i + 1, l', k', by omega, by go_num, hod3, HLen.out⟩
            case measure => simp [intOf]; omega
      · go_wp2_with fail
        refine (awake_any _).mono ?_
        rintro e w2 ⟨rfl, hb⟩
        have HL := Lib.hid (hod.out.low.trans (hb.mono hod.out.low.size))
        clear hb
        go_wp2
        go_ret
        exact ⟨rfl, HL.out⟩
theorem sure_all (W : World) (v0 : Value) (h0 : V22 W v0) :
    Calls Try.prog 4 #[v0] W fun e w' => e = .returned (.bool true) ∧ Below W.heap.size W w' := by
  obtain ⟨A, n, cap, rs, rfl, h1, h2, rfl, hR, hok⟩ := s22 h0
  exact sure_walk W A cap rs (by omega) hR (fun r hr => (hok r hr).2.1)
end Go.Proofs.Ytcmidhifhhmfkaa.disk
