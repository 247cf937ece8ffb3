/- Token: the reference's Check. -/
import Derived.Test.YtkbgmdabmebdhaaGreatDoorTkR
namespace Go.Proofs.YtkbgmdabmebdhaaGreatDoor.tk
open Go.ChangeShapes Go.WideShapes Go.ChangeAt Go.RowKit Go.Proofs.Aid Go.Proofs.YtkbgmdabmebdhaaGreatDoor.rgy Go.Proofs.YtkbgmdabmebdhaaGreatDoor.name
open Go.Proofs.YtkbgmdabmebdhaaGreatDoor.oc (be be_length bz bz_append teB textS numS St RAt RPost pv pb QAt)
open Go.Proofs.YtkbgmdabmebdhaaGreatDoor.mac (macB msum_any MStr IsD is_yes is_no rmsum_any RStr)
open Go.Proofs.YtkbgmdabmebdhaaGreatDoor.te
set_option linter.unusedVariables false
/-- While the tenant is kept. -/
structure Ct (w0 : World) (g : Nat) (a s : ByteArray) (n0 n1 n2 n3 : Int) (w' : World) : Prop where
  hx : Blk w' g 51 #[.string a, .string s, .int .i64 n0, .int .i64 n1, .int .i64 n2, .int .i64 n3]
  low : Below w0.heap.size w0 w'
section
variable {w0 w1 w2 : World} {g : Nat} {a s : ByteArray} {n0 n1 n2 n3 : Int}
theorem Ct.all (h : Ct w0 g a s n0 n1 n2 n3 w1) : w1.cell? ⟨g, 1, none⟩ = some (.string s) ∧ Hid (Ct w0 g a s n0 n1 n2 n3 w1) := ⟨by rw [h.hx.cell]; rfl, h⟩
theorem Ct.dall (h : Hid (Ct w0 g a s n0 n1 n2 n3 w1)) : w1.drew.cell? ⟨g, 1, none⟩ = some (.string s) ∧ Hid (Ct w0 g a s n0 n1 n2 n3 w1.drew) := Ct.all ⟨h.out.hx.drew, h.out.low.drew⟩
theorem Ct.nall (hb : Below w1.heap.size w1 w2) (h : Hid (Ct w0 g a s n0 n1 n2 n3 w1)) : w2.cell? ⟨g, 1, none⟩ = some (.string s) ∧ Hid (Ct w0 g a s n0 n1 n2 n3 w2) := Ct.all ⟨h.out.hx.below hb h.out.hx.lt, h.out.low.trans (hb.mono h.out.low.size)⟩
end
set_option maxRecDepth 100000 in
set_option maxHeartbeats 4000000 in
theorem rcheck_any (w : World) (A : Option Addr) (ca : Nat) (xs : List En) (s : ByteArray) (now : Int) (hl : xs.length ≤ 100000) (h1 : Reads w w.heap.size 4 A xs.length (xs.flatMap En.cells)) (hsh : short xs) (hs : s.size ≤ 1000000) :
    Calls Tryz.prog 9 #[.slice A xs.length ca, .string s, .int .i64 now] w (Ck (chk xs s now) (rA (cutA s)).1 (rB (cutA s)).1 w) := by
  have H1 := Lib.hid h1
  have HR := Lib.hid (rread_any s w hs)
  have h32 : Hid (okR (cutA s) = true → 32 ≤ s.size) := fun h => by
    rcases Nat.lt_or_ge s.size 32 with h3 | h3
    · rw [cutA_nil s h3, okR_nil] at h; cases h
    · exact h3
  have HA : Hid ((rA (cutA s)).1.size ≤ 1000000) := by
    have h := rA_size (cutA s)
    have h2 : (cutA s).size ≤ s.size := by unfold cutA; rw [ByteArray.size_extract]; omega
    unfold Hid; omega
  have HB : Hid ((rB (cutA s)).1.size ≤ maxLen) := by
    have h := rB_size (cutA s)
    have h2 : (cutA s).size ≤ s.size := by unfold cutA; rw [ByteArray.size_extract]; omega
    unfold Hid maxLen; omega
  have HO := Lib.hid (fun w h => rof_any w A ca xs (rA (cutA s)).1 hl h hsh HA.out)
  have hpz : Hid ((cutA s).size ≤ 1000000) := by unfold Hid cutA; rw [ByteArray.size_extract]; omega
  have hsec : Hid ((secV xs (rA (cutA s)).1).size ≤ 1000000) := by
    have h := get_short hsh (tkey (rA (cutA s)).1 fS)
    have h2 : (secV xs (rA (cutA s)).1).size ≤ 300 := h
    unfold Hid; omega
  have HM := Lib.hid (fun w => rmsum_any (secV xs (rA (cutA s)).1) (cutA s) w hsec.out hpz.out)
  have HT1 := Lib.hid (@ofT_yes xs (rA (cutA s)).1)
  have HY : Hid (chk xs s now = true → ∀ w', Below w.heap.size w w' → Ck (chk xs s now) (rA (cutA s)).1 (rB (cutA s)).1 w (.returned (.tuple #[.string (rA (cutA s)).1, .string (rB (cutA s)).1, .int .i64 0])) w') := fun h w' hb => ⟨by rw [h]; rfl, hb⟩
  have HN : Hid (chk xs s now = false → ∀ w', Below w.heap.size w w' → Ck (chk xs s now) (rA (cutA s)).1 (rB (cutA s)).1 w (.returned (.tuple #[.string ⟨#[]⟩, .string ⟨#[]⟩, .int .i64 7])) w') := fun h w' hb => ⟨by rw [h]; rfl, hb⟩
  obtain ⟨k, hk⟩ : ∃ k : Nat, k = s.size - 32 := ⟨_, rfl⟩
  have hks : k ≤ s.size := by omega
  have hsl := fun w => tkS.slice_to (P := Tryz.prog) Tryz.underlying9 w s k hks (H := (k : Int)) rfl
  have hsz := fun w => sha.slice_from (P := Tryz.prog) Tryz.underlying9 w s k hks (L := (k : Int)) rfl
  have hce : s.extract 0 k = cutA s := by subst hk; rfl
  have hcz : s.extract k s.size = cutZ s := by subst hk; rfl
  rw [hce] at hsl
  rw [hcz] at hsz
  clear hce hcz
  generalize hPR : Ck (chk xs s now) (rA (cutA s)).1 (rB (cutA s)).1 w = PR at *
  clear hPR
  rw [chk_split] at HY HN
  unfold Rd at HR
  unfold RStr at HM
  clear h1 hsh hpz hsec
  generalize okR (cutA s) = b0 at *
  obtain ⟨S, hS⟩ : ∃ S, bz (macB (secV xs (rA (cutA s)).1).data.toList (cutA s).data.toList) = S := ⟨_, rfl⟩
  rw [hS] at HY HN HM
  clear hS
  generalize (rC (cutA s)).1 = N at *
  generalize (rB (cutA s)).1 = B at *
  generalize (rA (cutA s)).1 = T at *
  generalize cutA s = p at *
  generalize cutZ s = q at *
  have HIA := Lib.hid (fun w => reg.rname_any T w (by have := HA.out; unfold maxLen; omega))
  have HIB := Lib.hid (fun w => reg.rname_any B w HB.out)
  generalize isName T.data.toList = b1 at *
  generalize isName B.data.toList = b2 at *
  clear HA HB
  cases b0 with
  | false =>
    have HE := Lib.hid (HN.out rfl)
    clear HN HY h32
    go_enter Tryz.func9, Tryz.ntmps9
    go_wp2_with fail
    refine HR.out.mono ?_
    rintro e w1 ⟨rfl, hb⟩
    have HF := Lib.hid (HE.out _ hb)
    clear hb HE
    go_wp2
    go_ret3
    exact HF.out
  | true =>
    have h32b := h32.out rfl
    have hmx : (s.size : Int) - 32 = (k : Int) := by omega
    clear h32 hk
    go_enter Tryz.func9, Tryz.ntmps9
    go_wp2_with fail
    refine HR.out.mono ?_
    rintro e w1 ⟨rfl, hb⟩
    simp only [if_true]
    have HL := Lib.hid hb
    clear hb HR
    cases b1 with
    | false =>
      have HE := Lib.hid (HN.out rfl)
      clear HN HY
      go_wp2_with fail
      refine (HIA.out w1).mono ?_
      rintro e w2 ⟨rfl, rfl⟩
      have HF := Lib.hid (HE.out _ HL.out)
      clear HE
      go_wp2
      go_ret3
      exact HF.out
    | true =>
      go_wp2_with fail
      refine (HIA.out w1).mono ?_
      rintro e w2 ⟨rfl, rfl⟩
      clear HIA
      cases b2 with
      | false =>
        have HE := Lib.hid (HN.out rfl)
        clear HN HY
        go_wp2_with fail
        refine (HIB.out _).mono ?_
        rintro e w3 ⟨rfl, rfl⟩
        have HF := Lib.hid (HE.out _ HL.out)
        clear HE
        go_wp2
        go_ret3
        exact HF.out
      | true =>
        by_cases hn : N < now
        · have HE := Lib.hid (HN.out (by rw [decide_eq_false (by omega : ¬ now ≤ N)]; rfl))
          clear HN HY
          go_wp2_with fail
          refine (HIB.out _).mono ?_
          rintro e w3 ⟨rfl, rfl⟩
          have HF := Lib.hid (HE.out _ HL.out)
          clear HE
          go_wp2
          go_ret3
          exact HF.out
        rw [decide_eq_true (by omega : now ≤ N)] at HN HY
        go_wp2_with fail
        refine (HIB.out _).mono ?_
        rintro e w3 ⟨rfl, rfl⟩
        clear HIB
        by_cases hT : isT xs T = true
        · rw [hT] at HO HY HN
          rw [HT1.out hT] at HO
          clear HT1
          generalize secV xs T = sec at *
          generalize limV xs T fB 1099511627776 1048576 = n0 at *
          generalize limV xs T fR 1048576 8 = n1 at *
          generalize limV xs T fU 1048576 16 = n2 at *
          generalize limV xs T fQ 64 16 = n3 at *
          simp only [Ten.cells] at HO
          clear hT
          go_wp2_with fail
          refine (HO.out _ (H1.out.more_below HL.out)).mono ?_
          rintro e w4 ⟨rfl, hb⟩
          have HL2 := Lib.hid (HL.out.trans (hb.mono HL.out.size)); clear hb HL; have HL := Lib.hid HL2.out; clear HL2
          clear HO
          have H4 : Hid (Ct w w4.heap.size T sec n0 n1 n2 n3 (w4.alloc (.cells #[.string T, .string sec, .int .i64 n0, .int .i64 n1, .int .i64 n2, .int .i64 n3] 51))) := ⟨Blk.new _ _ _, HL.out.alloc HL.out.size _⟩
          clear HL
          go_wp2_with fail
          generalize w4.alloc (.cells #[.string T, .string sec, .int .i64 n0, .int .i64 n1, .int .i64 n2, .int .i64 n3] 51) = w5 at *
          generalize w4.heap.size = g4 at *
          by_cases hz : S = q
          · have HE := Lib.hid (HY.out (by rw [decide_eq_true hz]; rfl))
            subst hz
            clear HN HY
            refine wp_region_held_drew (S := (fun w' => w'.cell? ⟨g4, 1, none⟩ = some (.string sec) ∧ Hid (Ct w g4 T sec n0 n1 n2 n3 w'))) (by kernel_rfl) ?_ (fun hHeldp0 => ?_)
            · exact Ct.dall H4
            refine wpAnyH_take (i := 0) (v := ?vp0) ops0 (by kernel_rfl) (by kernel_rfl) (by kernel_rfl) (fun _ _ _ h => h) (Or.inl ⟨by rfl, ?yp0⟩) hHeldp0 ?_
            case yp0 => (intro w hSw; (try dsimp only at hSw); go_simp; try (with_reducible rfl))
            try simp only [Act.put, List.setIfInBounds_toArray, List.set_cons_zero, List.set_cons_succ]
            refine wpAnyH_take (i := 1) (v := ?vp1) (opsS ops0) (by kernel_rfl) (by kernel_rfl) (by kernel_rfl) (fun _ _ _ h => h) (Or.inl ⟨by rfl, ?yp1⟩) hHeldp0 ?_
            case yp1 => (intro w hSw; (try dsimp only at hSw); go_simp; try (with_reducible rfl))
            try simp only [Act.put, List.setIfInBounds_toArray, List.set_cons_zero, List.set_cons_succ]
            refine wpAnyH_take (i := 2) (v := ?vp2) (opsS (opsS ops0)) (by kernel_rfl) (by kernel_rfl) (by kernel_rfl) (fun _ _ _ h => h) (Or.inl ⟨by rfl, ?yp2⟩) hHeldp0 ?_
            case yp2 => (intro w hSw; (try dsimp only at hSw); go_simp; try (with_reducible rfl))
            try simp only [Act.put, List.setIfInBounds_toArray, List.set_cons_zero, List.set_cons_succ]
            refine wpAnyH_take (i := 3) (v := ?vp3) (opsS (opsS (opsS ops0))) (by kernel_rfl) (by kernel_rfl) (by kernel_rfl) (fun _ _ _ h => h) (Or.inl ⟨by rfl, ?yp3⟩) hHeldp0 ?_
            case yp3 => (intro w hSw; (try dsimp only at hSw); go_simp; try (with_reducible rfl))
            try simp only [Act.put, List.setIfInBounds_toArray, List.set_cons_zero, List.set_cons_succ]
            refine wpAnyH_take (i := 4) (v := ?vp4) (opsS (opsS (opsS (opsS ops0)))) (by kernel_rfl) (by kernel_rfl) (by kernel_rfl) (fun _ _ _ h => h) (Or.inl ⟨by rfl, ?yp4⟩) hHeldp0 ?_
            case yp4 => (intro w hSw; (try dsimp only at hSw); go_simp; try (with_reducible rfl))
            try simp only [Act.put, List.setIfInBounds_toArray, List.set_cons_zero, List.set_cons_succ]
            refine wpAnyH_take (i := 5) (v := ?vp5) (opsS (opsS (opsS (opsS (opsS ops0))))) (by kernel_rfl) (by kernel_rfl) (by kernel_rfl) (fun _ _ _ h => h) (Or.inl ⟨by rfl, ?yp5⟩) hHeldp0 ?_
            case yp5 => (intro w hSw; (try dsimp only at hSw); go_simp; try (with_reducible rfl))
            try simp only [Act.put, List.setIfInBounds_toArray, List.set_cons_zero, List.set_cons_succ]
            refine wpAnyH_take (i := 6) (v := ?vp6) (opsS (opsS (opsS (opsS (opsS (opsS ops0)))))) (by kernel_rfl) (by kernel_rfl) (by kernel_rfl) (fun _ _ _ h => h) (Or.inl ⟨by rfl, ?yp6⟩) hHeldp0 ?_
            case yp6 => (intro w hSw; (try dsimp only at hSw); go_simp; try (with_reducible rfl))
            try simp only [Act.put, List.setIfInBounds_toArray, List.set_cons_zero, List.set_cons_succ]
            refine wpAnyH_take (i := 7) (v := ?vp7) (opsS (opsS (opsS (opsS (opsS (opsS (opsS ops0))))))) (by kernel_rfl) (by kernel_rfl) (by kernel_rfl) (fun _ _ _ h => h) (Or.inl ⟨by rfl, ?yp7⟩) hHeldp0 ?_
            case yp7 => (intro w hSw; (try dsimp only at hSw); go_simp; try (with_reducible rfl))
            try simp only [Act.put, List.setIfInBounds_toArray, List.set_cons_zero, List.set_cons_succ]
            refine wpAnyH_take (i := 9) (v := ?vp9) (opsS (opsS (opsS (opsS (opsS (opsS (opsS (opsS (opsS ops0))))))))) (by kernel_rfl) (by kernel_rfl) (by kernel_rfl) (fun _ _ _ h => h) (Or.inl ⟨by rfl, ?yp9⟩) hHeldp0 ?_
            case yp9 => (intro w hSw; (try dsimp only at hSw); go_simp; try (with_reducible rfl))
            try simp only [Act.put, List.setIfInBounds_toArray, List.set_cons_zero, List.set_cons_succ]
            refine wpAnyH_take (i := 10) (v := ?vp10) (opsS (opsS (opsS (opsS (opsS (opsS (opsS (opsS (opsS (opsS ops0)))))))))) (by kernel_rfl) (by kernel_rfl) (by kernel_rfl) (fun _ _ _ h => h) (Or.inl ⟨by rfl, ?yp10⟩) hHeldp0 ?_
            case yp10 => (intro w hSw; (try dsimp only at hSw); go_simp; try (with_reducible rfl))
            try simp only [Act.put, List.setIfInBounds_toArray, List.set_cons_zero, List.set_cons_succ]
            refine wpAnyH_take (i := 11) (v := ?vp11) (opsS (opsS (opsS (opsS (opsS (opsS (opsS (opsS (opsS (opsS (opsS ops0))))))))))) (by kernel_rfl) (by kernel_rfl) (by kernel_rfl) (fun _ _ _ h => h) (Or.inl ⟨by rfl, ?yp11⟩) hHeldp0 ?_
            case yp11 => (intro w hSw; (try dsimp only at hSw); go_simp; try (with_reducible rfl))
            try simp only [Act.put, List.setIfInBounds_toArray, List.set_cons_zero, List.set_cons_succ]
            refine wpAnyH_ready (rs := [8]) (by kernel_rfl) (by simp) ?_
            refine AllReadyH.cons (opsS (opsS (opsS (opsS (opsS (opsS (opsS (opsS ops0)))))))) (fun K hK => ?_) AllReadyH.nil
            go_simp
            refine (HM.out _).mono ?_; rintro e w' ⟨rfl, hb⟩
            try dsimp only
            refine hK.out _ _ ?_ (fun hHeldp1 => ?_)
            · (first | assumption | exact Ct.dall (by assumption) | (go_split_ands; exact Ct.dall (by assumption)) | (go_split_ands; exact Ct.nall (by assumption) (by assumption)))
            clear hK K hHeldp0
            try clear hb
            try simp only [Act.put, List.setIfInBounds_toArray, List.set_cons_zero, List.set_cons_succ]
            refine wpAnyH_take (i := 12) (v := ?vp12) (opsS (opsS (opsS (opsS (opsS (opsS (opsS (opsS (opsS (opsS (opsS (opsS ops0)))))))))))) (by kernel_rfl) (by kernel_rfl) (by kernel_rfl) (fun _ _ _ h => h) (Or.inl ⟨by rfl, ?yp12⟩) hHeldp1 ?_
            case yp12 => (intro w hSw; (try dsimp only at hSw); go_simp; try (with_reducible rfl))
            try simp only [Act.put, List.setIfInBounds_toArray, List.set_cons_zero, List.set_cons_succ]
            refine wpAnyH_take (i := 13) (v := ?vp13) (opsS (opsS (opsS (opsS (opsS (opsS (opsS (opsS (opsS (opsS (opsS (opsS (opsS ops0))))))))))))) (by kernel_rfl) (by kernel_rfl) (by kernel_rfl) (fun _ _ _ h => h) (Or.inl ⟨by rfl, ?yp13⟩) hHeldp1 ?_
            case yp13 => (intro w hSw; (try dsimp only at hSw); go_simp; try (with_reducible rfl))
            try simp only [Act.put, List.setIfInBounds_toArray, List.set_cons_zero, List.set_cons_succ]
            refine wpAnyH_done (by kernel_rfl) ?_ _
            have HF := Lib.hid (HE.out _ hHeldp1.2.out.low)
            clear hHeldp1 HE
            go_wp2
            go_ret3
            exact HF.out
          · have HE := Lib.hid (HN.out (by rw [decide_eq_false hz]; rfl))
            have hz2 := bytes_ne hz
            clear HN HY
            refine wp_region_held_drew (S := (fun w' => w'.cell? ⟨g4, 1, none⟩ = some (.string sec) ∧ Hid (Ct w g4 T sec n0 n1 n2 n3 w'))) (by kernel_rfl) ?_ (fun hHeldq0 => ?_)
            · exact Ct.dall H4
            refine wpAnyH_take (i := 0) (v := ?vq0) ops0 (by kernel_rfl) (by kernel_rfl) (by kernel_rfl) (fun _ _ _ h => h) (Or.inl ⟨by rfl, ?yq0⟩) hHeldq0 ?_
            case yq0 => (intro w hSw; (try dsimp only at hSw); go_simp; try (with_reducible rfl))
            try simp only [Act.put, List.setIfInBounds_toArray, List.set_cons_zero, List.set_cons_succ]
            refine wpAnyH_take (i := 1) (v := ?vq1) (opsS ops0) (by kernel_rfl) (by kernel_rfl) (by kernel_rfl) (fun _ _ _ h => h) (Or.inl ⟨by rfl, ?yq1⟩) hHeldq0 ?_
            case yq1 => (intro w hSw; (try dsimp only at hSw); go_simp; try (with_reducible rfl))
            try simp only [Act.put, List.setIfInBounds_toArray, List.set_cons_zero, List.set_cons_succ]
            refine wpAnyH_take (i := 2) (v := ?vq2) (opsS (opsS ops0)) (by kernel_rfl) (by kernel_rfl) (by kernel_rfl) (fun _ _ _ h => h) (Or.inl ⟨by rfl, ?yq2⟩) hHeldq0 ?_
            case yq2 => (intro w hSw; (try dsimp only at hSw); go_simp; try (with_reducible rfl))
            try simp only [Act.put, List.setIfInBounds_toArray, List.set_cons_zero, List.set_cons_succ]
            refine wpAnyH_take (i := 3) (v := ?vq3) (opsS (opsS (opsS ops0))) (by kernel_rfl) (by kernel_rfl) (by kernel_rfl) (fun _ _ _ h => h) (Or.inl ⟨by rfl, ?yq3⟩) hHeldq0 ?_
            case yq3 => (intro w hSw; (try dsimp only at hSw); go_simp; try (with_reducible rfl))
            try simp only [Act.put, List.setIfInBounds_toArray, List.set_cons_zero, List.set_cons_succ]
            refine wpAnyH_take (i := 4) (v := ?vq4) (opsS (opsS (opsS (opsS ops0)))) (by kernel_rfl) (by kernel_rfl) (by kernel_rfl) (fun _ _ _ h => h) (Or.inl ⟨by rfl, ?yq4⟩) hHeldq0 ?_
            case yq4 => (intro w hSw; (try dsimp only at hSw); go_simp; try (with_reducible rfl))
            try simp only [Act.put, List.setIfInBounds_toArray, List.set_cons_zero, List.set_cons_succ]
            refine wpAnyH_take (i := 5) (v := ?vq5) (opsS (opsS (opsS (opsS (opsS ops0))))) (by kernel_rfl) (by kernel_rfl) (by kernel_rfl) (fun _ _ _ h => h) (Or.inl ⟨by rfl, ?yq5⟩) hHeldq0 ?_
            case yq5 => (intro w hSw; (try dsimp only at hSw); go_simp; try (with_reducible rfl))
            try simp only [Act.put, List.setIfInBounds_toArray, List.set_cons_zero, List.set_cons_succ]
            refine wpAnyH_take (i := 6) (v := ?vq6) (opsS (opsS (opsS (opsS (opsS (opsS ops0)))))) (by kernel_rfl) (by kernel_rfl) (by kernel_rfl) (fun _ _ _ h => h) (Or.inl ⟨by rfl, ?yq6⟩) hHeldq0 ?_
            case yq6 => (intro w hSw; (try dsimp only at hSw); go_simp; try (with_reducible rfl))
            try simp only [Act.put, List.setIfInBounds_toArray, List.set_cons_zero, List.set_cons_succ]
            refine wpAnyH_take (i := 7) (v := ?vq7) (opsS (opsS (opsS (opsS (opsS (opsS (opsS ops0))))))) (by kernel_rfl) (by kernel_rfl) (by kernel_rfl) (fun _ _ _ h => h) (Or.inl ⟨by rfl, ?yq7⟩) hHeldq0 ?_
            case yq7 => (intro w hSw; (try dsimp only at hSw); go_simp; try (with_reducible rfl))
            try simp only [Act.put, List.setIfInBounds_toArray, List.set_cons_zero, List.set_cons_succ]
            refine wpAnyH_take (i := 9) (v := ?vq9) (opsS (opsS (opsS (opsS (opsS (opsS (opsS (opsS (opsS ops0))))))))) (by kernel_rfl) (by kernel_rfl) (by kernel_rfl) (fun _ _ _ h => h) (Or.inl ⟨by rfl, ?yq9⟩) hHeldq0 ?_
            case yq9 => (intro w hSw; (try dsimp only at hSw); go_simp; try (with_reducible rfl))
            try simp only [Act.put, List.setIfInBounds_toArray, List.set_cons_zero, List.set_cons_succ]
            refine wpAnyH_take (i := 10) (v := ?vq10) (opsS (opsS (opsS (opsS (opsS (opsS (opsS (opsS (opsS (opsS ops0)))))))))) (by kernel_rfl) (by kernel_rfl) (by kernel_rfl) (fun _ _ _ h => h) (Or.inl ⟨by rfl, ?yq10⟩) hHeldq0 ?_
            case yq10 => (intro w hSw; (try dsimp only at hSw); go_simp; try (with_reducible rfl))
            try simp only [Act.put, List.setIfInBounds_toArray, List.set_cons_zero, List.set_cons_succ]
            refine wpAnyH_take (i := 11) (v := ?vq11) (opsS (opsS (opsS (opsS (opsS (opsS (opsS (opsS (opsS (opsS (opsS ops0))))))))))) (by kernel_rfl) (by kernel_rfl) (by kernel_rfl) (fun _ _ _ h => h) (Or.inl ⟨by rfl, ?yq11⟩) hHeldq0 ?_
            case yq11 => (intro w hSw; (try dsimp only at hSw); go_simp; try (with_reducible rfl))
            try simp only [Act.put, List.setIfInBounds_toArray, List.set_cons_zero, List.set_cons_succ]
            refine wpAnyH_ready (rs := [8]) (by kernel_rfl) (by simp) ?_
            refine AllReadyH.cons (opsS (opsS (opsS (opsS (opsS (opsS (opsS (opsS ops0)))))))) (fun K hK => ?_) AllReadyH.nil
            go_simp
            refine (HM.out _).mono ?_; rintro e w' ⟨rfl, hb⟩
            try dsimp only
            refine hK.out _ _ ?_ (fun hHeldq1 => ?_)
            · (first | assumption | exact Ct.dall (by assumption) | (go_split_ands; exact Ct.dall (by assumption)) | (go_split_ands; exact Ct.nall (by assumption) (by assumption)))
            clear hK K hHeldq0
            try clear hb
            try simp only [Act.put, List.setIfInBounds_toArray, List.set_cons_zero, List.set_cons_succ]
            refine wpAnyH_take (i := 12) (v := ?vq12) (opsS (opsS (opsS (opsS (opsS (opsS (opsS (opsS (opsS (opsS (opsS (opsS ops0)))))))))))) (by kernel_rfl) (by kernel_rfl) (by kernel_rfl) (fun _ _ _ h => h) (Or.inl ⟨by rfl, ?yq12⟩) hHeldq1 ?_
            case yq12 => (intro w hSw; (try dsimp only at hSw); go_simp; try (with_reducible rfl))
            try simp only [Act.put, List.setIfInBounds_toArray, List.set_cons_zero, List.set_cons_succ]
            refine wpAnyH_take (i := 13) (v := ?vq13) (opsS (opsS (opsS (opsS (opsS (opsS (opsS (opsS (opsS (opsS (opsS (opsS (opsS ops0))))))))))))) (by kernel_rfl) (by kernel_rfl) (by kernel_rfl) (fun _ _ _ h => h) (Or.inl ⟨by rfl, ?yq13⟩) hHeldq1 ?_
            case yq13 => (intro w hSw; (try dsimp only at hSw); go_simp; try (with_reducible rfl))
            try simp only [Act.put, List.setIfInBounds_toArray, List.set_cons_zero, List.set_cons_succ]
            refine wpAnyH_done (by kernel_rfl) ?_ _
            have HF := Lib.hid (HE.out _ hHeldq1.2.out.low)
            clear hHeldq1 HE
            go_wp2
            go_ret3
            exact HF.out
        · have hF : isT xs T = false := by simpa using hT
          rw [hF] at HO HY HN
          rw [ofT_no hF] at HO
          have HE := Lib.hid (HN.out rfl)
          clear HN HY HT1 hT
          simp only [Ten.cells, Ten.zero] at HO
          go_wp2_with fail
          refine (HO.out _ (H1.out.more_below HL.out)).mono ?_
          rintro e w4 ⟨rfl, hb⟩
          have HL2 := Lib.hid (HL.out.trans (hb.mono HL.out.size)); clear hb HL; have HL := Lib.hid HL2.out; clear HL2
          clear HO
          have HL5 := Lib.hid (HL.out.alloc HL.out.size (.cells #[.string ⟨#[]⟩, .string ⟨#[]⟩, .int .i64 0, .int .i64 0, .int .i64 0, .int .i64 0] 51))
          clear HL
          go_wp2_with fail
          generalize w4.alloc (.cells #[.string ⟨#[]⟩, .string ⟨#[]⟩, .int .i64 0, .int .i64 0, .int .i64 0, .int .i64 0] 51) = w5 at *
          refine wp_region_held_drew (S := (fun w' => Hid (Below w.heap.size w w'))) (by kernel_rfl) ?_ (fun hHeldr0 => ?_)
          · exact HL5.out.drew
          refine wpAnyH_take (i := 0) (v := ?vr0) ops0 (by kernel_rfl) (by kernel_rfl) (by kernel_rfl) (fun _ _ _ h => h) (Or.inl ⟨by rfl, ?yr0⟩) hHeldr0 ?_
          case yr0 => (intro w hSw; (try dsimp only at hSw); go_simp; try (with_reducible rfl))
          try simp only [Act.put, List.setIfInBounds_toArray, List.set_cons_zero, List.set_cons_succ]
          refine wpAnyH_take (i := 1) (v := ?vr1) (opsS ops0) (by kernel_rfl) (by kernel_rfl) (by kernel_rfl) (fun _ _ _ h => h) (Or.inl ⟨by rfl, ?yr1⟩) hHeldr0 ?_
          case yr1 => (intro w hSw; (try dsimp only at hSw); go_simp; try (with_reducible rfl))
          try simp only [Act.put, List.setIfInBounds_toArray, List.set_cons_zero, List.set_cons_succ]
          refine wpAnyH_take (i := 2) (v := ?vr2) (opsS (opsS ops0)) (by kernel_rfl) (by kernel_rfl) (by kernel_rfl) (fun _ _ _ h => h) (Or.inl ⟨by rfl, ?yr2⟩) hHeldr0 ?_
          case yr2 => (intro w hSw; (try dsimp only at hSw); go_simp; try (with_reducible rfl))
          try simp only [Act.put, List.setIfInBounds_toArray, List.set_cons_zero, List.set_cons_succ]
          refine wpAnyH_take (i := 3) (v := undef) (opsS (opsS (opsS ops0))) (by kernel_rfl) (by kernel_rfl) (by kernel_rfl) (fun _ _ _ h => h) (Or.inr ⟨by rfl, rfl⟩) hHeldr0 ?_
          try simp only [Act.put, List.setIfInBounds_toArray, List.set_cons_zero, List.set_cons_succ]
          refine wpAnyH_take (i := 4) (v := undef) (opsS (opsS (opsS (opsS ops0)))) (by kernel_rfl) (by kernel_rfl) (by kernel_rfl) (fun _ _ _ h => h) (Or.inr ⟨by rfl, rfl⟩) hHeldr0 ?_
          try simp only [Act.put, List.setIfInBounds_toArray, List.set_cons_zero, List.set_cons_succ]
          refine wpAnyH_take (i := 5) (v := undef) (opsS (opsS (opsS (opsS (opsS ops0))))) (by kernel_rfl) (by kernel_rfl) (by kernel_rfl) (fun _ _ _ h => h) (Or.inr ⟨by rfl, rfl⟩) hHeldr0 ?_
          try simp only [Act.put, List.setIfInBounds_toArray, List.set_cons_zero, List.set_cons_succ]
          refine wpAnyH_take (i := 6) (v := undef) (opsS (opsS (opsS (opsS (opsS (opsS ops0)))))) (by kernel_rfl) (by kernel_rfl) (by kernel_rfl) (fun _ _ _ h => h) (Or.inr ⟨by rfl, rfl⟩) hHeldr0 ?_
          try simp only [Act.put, List.setIfInBounds_toArray, List.set_cons_zero, List.set_cons_succ]
          refine wpAnyH_take (i := 7) (v := undef) (opsS (opsS (opsS (opsS (opsS (opsS (opsS ops0))))))) (by kernel_rfl) (by kernel_rfl) (by kernel_rfl) (fun _ _ _ h => h) (Or.inr ⟨by rfl, rfl⟩) hHeldr0 ?_
          try simp only [Act.put, List.setIfInBounds_toArray, List.set_cons_zero, List.set_cons_succ]
          refine wpAnyH_take (i := 8) (v := undef) (opsS (opsS (opsS (opsS (opsS (opsS (opsS (opsS ops0)))))))) (by kernel_rfl) (by kernel_rfl) (by kernel_rfl) (fun _ _ _ h => h) (Or.inr ⟨by rfl, rfl⟩) hHeldr0 ?_
          try simp only [Act.put, List.setIfInBounds_toArray, List.set_cons_zero, List.set_cons_succ]
          refine wpAnyH_take (i := 9) (v := undef) (opsS (opsS (opsS (opsS (opsS (opsS (opsS (opsS (opsS ops0))))))))) (by kernel_rfl) (by kernel_rfl) (by kernel_rfl) (fun _ _ _ h => h) (Or.inr ⟨by rfl, rfl⟩) hHeldr0 ?_
          try simp only [Act.put, List.setIfInBounds_toArray, List.set_cons_zero, List.set_cons_succ]
          refine wpAnyH_take (i := 10) (v := undef) (opsS (opsS (opsS (opsS (opsS (opsS (opsS (opsS (opsS (opsS ops0)))))))))) (by kernel_rfl) (by kernel_rfl) (by kernel_rfl) (fun _ _ _ h => h) (Or.inr ⟨by rfl, rfl⟩) hHeldr0 ?_
          try simp only [Act.put, List.setIfInBounds_toArray, List.set_cons_zero, List.set_cons_succ]
          refine wpAnyH_take (i := 11) (v := undef) (opsS (opsS (opsS (opsS (opsS (opsS (opsS (opsS (opsS (opsS (opsS ops0))))))))))) (by kernel_rfl) (by kernel_rfl) (by kernel_rfl) (fun _ _ _ h => h) (Or.inr ⟨by rfl, rfl⟩) hHeldr0 ?_
          try simp only [Act.put, List.setIfInBounds_toArray, List.set_cons_zero, List.set_cons_succ]
          refine wpAnyH_take (i := 12) (v := undef) (opsS (opsS (opsS (opsS (opsS (opsS (opsS (opsS (opsS (opsS (opsS (opsS ops0)))))))))))) (by kernel_rfl) (by kernel_rfl) (by kernel_rfl) (fun _ _ _ h => h) (Or.inr ⟨by rfl, rfl⟩) hHeldr0 ?_
          try simp only [Act.put, List.setIfInBounds_toArray, List.set_cons_zero, List.set_cons_succ]
          refine wpAnyH_take (i := 13) (v := ?vr13) (opsS (opsS (opsS (opsS (opsS (opsS (opsS (opsS (opsS (opsS (opsS (opsS (opsS ops0))))))))))))) (by kernel_rfl) (by kernel_rfl) (by kernel_rfl) (fun _ _ _ h => h) (Or.inl ⟨by rfl, ?yr13⟩) hHeldr0 ?_
          case yr13 => (intro w hSw; (try dsimp only at hSw); go_simp; try (with_reducible rfl))
          try simp only [Act.put, List.setIfInBounds_toArray, List.set_cons_zero, List.set_cons_succ]
          refine wpAnyH_done (by kernel_rfl) ?_ _
          have HF := Lib.hid (HE.out _ hHeldr0.out)
          clear hHeldr0 HE
          go_wp2
          go_ret3
          exact HF.out
end Go.Proofs.YtkbgmdabmebdhaaGreatDoor.tk
