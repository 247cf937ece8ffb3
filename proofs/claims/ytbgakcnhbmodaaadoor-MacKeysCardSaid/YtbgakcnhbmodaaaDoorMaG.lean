/- Mac: the law Keys. -/
import Derived.Test.YtbgakcnhbmodaaaDoorMaF
import Derived.Laws.MakeOwn
namespace Go.Proofs.YtbgakcnhbmodaaaDoor.mac
open Go.ChangeShapes Go.WideShapes Go.ChangeAt Go.RowKit Go.Proofs.Aid
open Go.Proofs.YtbgakcnhbmodaaaDoor.oc (be be_length bz bz_append)
open Go.Proofs.YtbgakcnhbmodaaaDoor.sha
set_option linter.unusedVariables false
theorem u8_in {b : Int} (h : (Lit.int .u8 b).wf = true) : 0 ≤ b ∧ b ≤ 255 := by
  simpa [Lit.wf, IntKind.min, IntKind.max, IntKind.signed, IntKind.bits] using h
theorem padX_more (k : List UInt8) (n : Nat) (p : UInt8) : padX (k ++ List.replicate n 0) p = padX k p := by
  unfold padX
  apply List.map_congr_left
  intro i hi
  congr 1
  by_cases h : i < k.length
  · simp [List.getD, List.getElem?_append_left h]
  · simp only [List.getD, List.getElem?_append_right (by omega : k.length ≤ i)]
    rw [List.getElem?_eq_none (by omega : k.length ≤ i), List.getElem?_replicate]
    split <;> rfl
theorem macB_more (k s : List UInt8) (n : Nat) (h : k.length + n ≤ 64) : macB (k ++ List.replicate n 0) s = macB k s := by
  have h1 : keyB (k ++ List.replicate n 0) = k ++ List.replicate n 0 := if_neg (by simp; omega)
  have h2 : keyB k = k := if_neg (by omega)
  unfold macB
  rw [h1, h2, padX_more, padX_more]
theorem macB_sum (k s : List UInt8) (h : 64 < k.length) : macB (shaB k) s = macB k s := by
  have h1 : keyB (shaB k) = shaB k := if_neg (by rw [shaB_length]; omega)
  have h2 : keyB k = shaB k := if_pos h
  unfold macB
  rw [h1, h2]
theorem made_row (w : World) (n : Nat) (hn : n < 16) :
    (Instr.makeSlice 27 (.int .i64 (n : Int)) (.int .i64 (n : Int))).run Tryd.prog w = .ok (.slice (some ⟨w.heap.size, 0, none⟩) n n) (w.alloc (.cells (madeCells #[.int .u8 0] n) 5)) := by
  obtain ⟨i0, hi0, hz0, hz1, hz2⟩ := info_parts infoU8
  have h := run_make (P := Tryd.prog) w 27 5 i0 (.int .u8 0) Tryd.underlying27 hi0 hz0 .i64 .i64 (n : Int) (n : Int) (by omega) (by omega) (by rw [hz2]; omega) (by omega)
  rw [hz1] at h
  simpa [Value.cells] using h
theorem made_back (w : World) (n : Nat) :
    (convert 27 9 (.slice (some ⟨w.heap.size, 0, none⟩) n n)).run Tryd.prog (w.alloc (.cells (madeCells #[.int .u8 0] n) 5)) = .ok (.string (bz (List.replicate n 0))) (w.alloc (.cells (madeCells #[.int .u8 0] n) 5)) := by
  have h := run_convert_bytes_back (P := Tryd.prog) (w.alloc (.cells (madeCells #[.int .u8 0] n) 5)) 27 9 5 ⟨w.heap.size, 0, none⟩ n (List.replicate n 0) Tryd.underlying27 Tryd.underlying5 Tryd.underlying9 (fun j hj => by
    have e : (⟨w.heap.size, 0, none⟩ : Addr).add j = ⟨w.heap.size, j, none⟩ := by unfold Addr.add; split <;> simp_all
    have hj2 : j < n := by simpa using hj
    rw [e, (Blk.new w 5 _).cell]
    have h1 : j % 1 = 0 := Nat.mod_one j
    simp [madeCells, hj2, h1])
  rw [List.length_replicate] at h
  exact h
set_option maxRecDepth 100000 in
set_option maxHeartbeats 4000000 in
theorem keys_all (W : World) (v0 v1 v2 : Value) (h0 : V9 W v0) (h1 : V9 W v1) (h2 : V5 W v2) (hl : Hid (Lets W)) :
    Calls Tryd.prog 6 #[v0, v1, v2] W fun e w' => e = .returned (.bool true) ∧ Below W.heap.size W w' := by
  obtain ⟨⟨k⟩, rfl, hok⟩ := h0
  obtain ⟨⟨s⟩, rfl, hok1⟩ := h1
  obtain ⟨⟨x⟩, rfl, hok2⟩ := h2
  have hk : k.size ≤ maxLen := hok
  have hs : s.size ≤ maxLen := hok1
  obtain ⟨hx0, hx1⟩ := u8_in hok2
  simp only at hx0 hx1
  clear hok hok1 hok2
  unfold maxLen at hk hs
  have HA := Lib.hid (fun w' (h : Lets w') => awake_any w' h)
  simp only [R9.val, R5.val]
  by_cases hb : 512 < k.size
  · have hb2 : (512 : Int) < (k.size : Int) := by omega
    go_enter Tryd.func6, Tryd.ntmps6
    go_wp2_with fail
    refine (HA.out _ hl.out).mono ?_; rintro e wz ⟨rfl, hB⟩; have HZ := Lib.hid (hB); clear hB; go_wp2; go_ret; exact ⟨rfl, HZ.out⟩
  · have hb2 : ¬ (512 : Int) < (k.size : Int) := by omega
    by_cases hc : 512 < s.size
    · have hc2 : (512 : Int) < (s.size : Int) := by omega
      go_enter Tryd.func6, Tryd.ntmps6
      go_wp2_with fail
      refine (HA.out _ hl.out).mono ?_; rintro e wz ⟨rfl, hB⟩; have HZ := Lib.hid (hB); clear hB; go_wp2; go_ret; exact ⟨rfl, HZ.out⟩
    · have hc2 : ¬ (512 : Int) < (s.size : Int) := by omega
      have H1 := Lib.hid (fun w' (h : Lets w') => msum_any k s w' (by omega) (by omega) h)
      by_cases hd : 64 < k.size
      · have hd2 : (64 : Int) < (k.size : Int) := by omega
        have HS := Lib.hid (fun w' => shr.rsum_any k w' (by omega))
        have hM : Hid (∀ w', Lets w' → Calls Tryd.prog 7 #[.string (bz (shaB k.data.toList)), .string s] w' (MStr (macB k.data.toList s.data.toList) w')) := fun w' h => by
          have h3 := msum_any (bz (shaB k.data.toList)) s w' (by rw [oc.bz_size, shaB_length]; decide) (by omega) h
          have h4 : macB (bz (shaB k.data.toList)).data.toList s.data.toList = macB k.data.toList s.data.toList := macB_sum _ _ (by simpa using hd)
          rwa [h4] at h3
        go_enter Tryd.func6, Tryd.ntmps6
        go_wp2_with fail
        refine (H1.out _ hl.out).mono ?_
        rintro e w1 ⟨rfl, hB⟩
        have HB1 := Lib.hid hB
        clear hB H1
        go_wp2_with fail
        refine (HS.out _).mono ?_
        rintro e w2 ⟨rfl, hB⟩
        have HB2 := Lib.hid (HB1.out.trans (hB.mono HB1.out.size))
        clear hB HB1 HS
        go_wp2_with fail
        refine (hM.out _ (hl.out.below HB2.out (Nat.le_refl _))).mono ?_
        rintro e w3 ⟨rfl, hB⟩
        have HB3 := Lib.hid (HB2.out.trans (hB.mono HB2.out.size))
        have HL3 := Lib.hid (hl.out.below HB3.out (Nat.le_refl _))
        clear hB HB2 hM
        generalize (⟨(macB k.data.toList s.data.toList).toArray⟩ : ByteArray) = y at *
        go_wp2_with fail
        refine (HA.out _ HL3.out).mono ?_; rintro e wz ⟨rfl, hB⟩; have HZ := Lib.hid (HB3.out.trans (hB.mono HB3.out.size)); clear hB; go_wp2; go_ret; exact ⟨rfl, HZ.out⟩
      · have hd2 : ¬ (64 : Int) < (k.size : Int) := by omega
        obtain ⟨n, hn, hxn⟩ : ∃ n : Nat, n < 16 ∧ bits .and .u8 x 15 = (n : Int) := by
          refine ⟨x.toNat % 16, by omega, ?_⟩
          have h := and15 ⟨x.toNat, by omega⟩
          simpa [Int.toNat_of_nonneg hx0] using h
        have hmk := made_row W n hn
        have hcv := made_back W n
        have HBn : Hid (Below W.heap.size W (W.alloc (.cells (madeCells #[.int .u8 0] n) 5))) := below_lit _ _
        have hzs : (bz (List.replicate n 0)).size = n := (oc.bz_size _).trans (List.length_replicate ..)
        have HZ : Hid ((k ++ bz (List.replicate n 0)).data.toList = k.data.toList ++ List.replicate n 0) := by unfold Hid; rw [ba_app]; rfl
        have hks : (k ++ bz (List.replicate n 0)).size = k.size + n := by
          have h := congrArg List.length HZ.out
          rw [Array.length_toList, List.length_append, Array.length_toList, List.length_replicate] at h
          exact h
        have HM : Hid (k.size + n ≤ 64 → macB (k ++ bz (List.replicate n 0)).data.toList s.data.toList = macB k.data.toList s.data.toList) := fun h => by
          rw [HZ.out]
          exact macB_more _ _ _ (by simpa using h)
        generalize madeCells #[.int .u8 0] n = mc at *
        generalize bz (List.replicate n 0) = z at *
        clear HZ hx0 hx1
        go_enter Tryd.func6, Tryd.ntmps6
        go_wp2_with fail
        · clear hmk hcv hxn
          generalize W.alloc (.cells mc 5) = wa at *
          rename_i hle
          have hM := HM.out (by omega)
          have HT := Lib.hid (msum_any (k ++ z) s wa (by omega) (by omega) (hl.out.below HBn.out (Nat.le_refl _)))
          rw [hM] at HT
          clear hM HM
          refine HT.out.mono ?_
          rintro e w1 ⟨rfl, hB⟩
          have HB1 := Lib.hid (HBn.out.trans (hB.mono HBn.out.size))
          clear hB HBn HT
          go_wp2_with fail
          refine (H1.out _ (hl.out.below HB1.out (Nat.le_refl _))).mono ?_
          rintro e w2 ⟨rfl, hB⟩
          have HB2 := Lib.hid (HB1.out.trans (hB.mono HB1.out.size))
          have HL2 := Lib.hid (hl.out.below HB2.out (Nat.le_refl _))
          clear hB HB1 H1
          generalize (⟨(macB k.data.toList s.data.toList).toArray⟩ : ByteArray) = y at *
          go_wp2_with fail
          refine (HA.out _ HL2.out).mono ?_; rintro e wz ⟨rfl, hB⟩; have HZ := Lib.hid (HB2.out.trans (hB.mono HB2.out.size)); clear hB; go_wp2; go_ret; exact ⟨rfl, HZ.out⟩
        · clear hmk hcv hxn HM H1
          generalize W.alloc (.cells mc 5) = wa at *
          refine (HA.out _ (hl.out.below HBn.out (Nat.le_refl _))).mono ?_; rintro e wz ⟨rfl, hB⟩; have HZ := Lib.hid (HBn.out.trans (hB.mono HBn.out.size)); clear hB; go_wp2; go_ret; exact ⟨rfl, HZ.out⟩
end Go.Proofs.YtbgakcnhbmodaaaDoor.mac
