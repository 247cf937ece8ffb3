/- Frames, the reference's. No condition. -/
import Derived.Test.YtgojeoebflpglaaFrC
import Derived.Test.YtgojeoebflpglaaCrR
import Derived.Test.YtgojeoebflpglaaOcP
namespace Go.Proofs.Ytgojeoebflpglaa.fr
set_option linter.unusedSimpArgs false
set_option linter.unusedVariables false
open Go.ChangeShapes Go.WideShapes Go.ChangeAt Go.RowKit Go.Proofs.Aid
open Go.Proofs.Ytgojeoebflpglaa.oc Go.Proofs.CrcMath
open Go.Proofs.Ytgojeoebflpglaa.texts (tc)
theorem sumR (s : ByteArray) (w : World) (hs : s.size ≤ 1048576) :
    Calls Try.prog 18 #[.string (bz (be 4 s.size) ++ s)] w fun e w' => e = .returned (.int .i64 (sumB s : Nat)) ∧ w = w' := by
  have h := crc.rsum_any (bz (be 4 s.size) ++ s) w (by rw [ByteArray.size_append, bz_size, be_length]; unfold maxLen; omega)
  have e : (bz (be 4 s.size) ++ s).data.toList = be 4 s.size ++ s.data.toList := by rw [bz_str, bz_data]
  rw [e] at h
  exact h
set_option maxHeartbeats 1000000 in
theorem rput_any (s : ByteArray) (w : World) (hs : s.size ≤ 1048576) :
    Calls Try.prog 13 #[.string s] w fun e w' => e = .returned (.string (bz (frB s))) ∧ Below w.heap.size w w' := by
  have HC := Lib.hid (qcountB_any s.size w)
  have HS := Lib.hid (fun w => sumR s w hs)
  have HD := Lib.hid (fun w => qcountB_any (sumB s : Nat) w)
  have z1 : (bz (be 4 s.size)).size = 4 := by rw [bz_size, be_length]
  have z2 : (bz (be 4 (sumB s : Nat))).size = 4 := by rw [bz_size, be_length]
  have z3 : (bz (headB s)).size = 8 := by rw [bz_size, headB_len]
  have q1 : Hid (bz (be 4 s.size) ++ bz (be 4 (sumB s : Nat)) = bz (headB s)) := bz_append _ _
  have q2 : Hid (bz (headB s) ++ s = bz (frB s)) := bz_str _ _
  have z4 : (bz (be 4 s.size) ++ s).size ≤ 2000000 := by rw [ByteArray.size_append]; omega
  generalize bz (be 4 (sumB s : Nat)) = x2 at *
  generalize sumB s = c at *
  generalize bz (headB s) = x3 at *
  generalize bz (be 4 s.size) = x1 at *
  go_enter Try.func13, Try.ntmps13
  go_wp2_with fail
  refine HC.out.mono ?_
  rintro e w1 ⟨rfl, hb⟩
  have HL := Lib.hid hb
  clear hb
  go_wp2_with fail
  refine (HS.out _).mono ?_
  rintro e w2 ⟨rfl, rfl⟩
  go_wp2_with fail
  refine (HD.out _).mono ?_
  rintro e w3 ⟨rfl, hb⟩
  have HL2 := Lib.hid (HL.out.trans (hb.mono HL.out.size))
  clear hb
  have q1 := q1.out
  go_wp2
  go_ret
  exact ⟨by rw [← q2.out]; rfl, HL2.out⟩
theorem bz_frs (l : List ByteArray) (k : Nat) (h : k < l.length) : bz (frsB (l.take k)) ++ bz (frB l[k]) = bz (frsB (l.take (k + 1))) := by
  rw [frs_take l k h, bz_append]
set_option maxRecDepth 100000 in
set_option maxHeartbeats 2000000 in
theorem rall_any (A : Option Addr) (ca : Nat) (l : List ByteArray) (w : World) (hl : l.length ≤ 100000) (hz : ∀ s ∈ l, s.size ≤ 1048576) (hr : Reads w w.heap.size 1 A l.length (l.flatMap tc)) :
    Calls Try.prog 11 #[.slice A l.length ca] w fun e w' => e = .returned (.string (bz (frsB l))) ∧ Below w.heap.size w w' := by
  have H1 := Lib.hid hr
  have HZ := Lib.hid hz
  have HB := Lib.hid (frs_bd l hl hz)
  have e0 : Hid ((⟨#[]⟩ : ByteArray) = bz (frsB (l.take 0))) := rfl
  clear hr hz
  go_enter Try.func11, Try.ntmps11
  go_wp2_with fail
  go_loopw [3, 4] (fun sv iv wr => ∃ k : Nat, k ≤ l.length ∧ iv = .int .i64 k ∧ sv = .string (bz (frsB (l.take k))) ∧ Hid (Below w.heap.size w wr)) (fun _ iv _ => l.length - (intOf iv).toNat)
  case atStart => exact ⟨0, by omega, rfl, by rw [← e0.out], Below.refl _ _⟩
  case round =>
    clear e0
    obtain ⟨k, hk, rfl, rfl, hlow⟩ := hrel
    by_cases hlt : k < l.length
    · obtain ⟨ad, rfl, hbl, c0⟩ := (H1.out.below hlow.out).elem1 hlt
      have hsz := HZ.out l[k] (List.getElem_mem hlt)
      have hcat := Lib.hid (bz_frs l k hlt)
      have hz1 : (bz (frsB (l.take k))).size ≤ 200000000000 := by rw [bz_size]; exact HB.out k
      have hz2 : (bz (frB l[k])).size ≤ 2000000 := by rw [bz_size, frB_len]; omega
      have HT := Lib.hid (rput_any l[k] wr hsz)
      generalize bz (frB l[k]) = t at *
      generalize l[k] = s at *
      generalize hg2 : bz (frsB (l.take (k + 1))) = g2 at *
      have hg2 := Lib.hid hg2
      generalize bz (frsB (l.take k)) = g1 at *
      go_wp2_with fail
      refine HT.out.mono ?_
      rintro e w2 ⟨rfl, hb⟩
      have hb2 := Lib.hid (hlow.out.trans (hb.mono hlow.out.size))
      clear hb
      go_wp2
      go_roundw
      case rel => exact ⟨k + 1, by omega, by go_num, by rw [hg2.out, ← hcat.out], hb2⟩
      case measure => simp [intOf]; omega
    · have ht : Hid (l.take k = l) := List.take_of_length_le (by omega)
      rw [ht.out]
      go_wp2
      go_ret
      exact ⟨rfl, hlow.out⟩
set_option maxRecDepth 100000 in
set_option maxHeartbeats 4000000 in
theorem rscan_any (x : ByteArray) (w : World) (hx : x.size ≤ 1000000) :
    Calls Try.prog 9 #[.string x] w (SPost x w) := by
  obtain ⟨i0, hi0, hz0, hz1, hz2⟩ := info_parts infoT
  have hrow0 : Row w w.heap.size 9 1 tc (.slice none 0 0) [] := Row.nil _ _ _ _ _
  have hgot0 := Lib.hid (Got.zero x)
  go_enter Try.func9, Try.ntmps9
  go_wp2_with fail
  go_loopw [4, 5] (fun v gv wr => ∃ (k g : Nat) (L : List ByteArray), gv = .int .i64 g ∧ Hid (Got x k L g) ∧ Row wr w.heap.size 9 1 tc v L ∧ Hid (Below w.heap.size w wr)) (fun _ gv _ => x.size - (intOf gv).toNat)
  case atStart => exact ⟨0, 0, [], rfl, hgot0, hrow0, Below.refl _ _⟩
  case round =>
    clear hgot0 hrow0
    obtain ⟨k, g, L, rfl, hgot, hrow, hlow⟩ := hrel
    have hgx := hgot.out.2.2.2
    have hL : L.length ≤ 1000000 := by have := hgot.out.2.1; have := hgot.out.2.2.1; omega
    have hzw := hlow.out.size
    obtain ⟨A, c, rfl⟩ := hrow.form
    have hstop := Lib.hid (fun h => hgot.out.stop h)
    have hnext := Lib.hid (fun b h => hgot.out.next (b := b) h)
    have hfit := Lib.hid (fun b (h : firstS (x.extract g x.size) = some b) => first_fit h)
    have hez : (x.extract g x.size).size = x.size - g := by rw [ByteArray.size_extract]; omega
    have HEZ := Lib.hid hez
    clear hez
    generalize hy : x.extract g x.size = y at *
    have hQ := Blk.new wr 41 #[.string y, .bool false]
    have HQ : Hid (QAt wr.heap.size (some y) (wr.alloc (.cells #[.string y, .bool false] 41))) := ⟨by show y.size ≤ _; have := HEZ.out; omega, y, by have := HEZ.out; omega, hQ, fun z hz => by injection hz with hz; exact hz.symm⟩
    have hl0 := Lib.hid (below_lit wr (.cells #[.string y, .bool false] 41))
    have hrow0 := hrow.alloc (.cells #[.string y, .bool false] 41)
    have hown : Hid (∀ q, (Value.slice A L.length c).ownBlock = some q → q < wr.heap.size) := fun q hq => (hrow.own hq).2
    clear hQ hrow
    have hbd := Lib.hid (countS_bd 1048576 (some y) (by decide))
    have hfs : Hid (firstS y = match (countS 4294967295 (countS 1048576 (some y)).2).2 with
      | none => none
      | some r => if (countS 1048576 (some y)).1 ≤ r.size ∧ (cmore 0 (be 4 (countS 1048576 (some y)).1 ++ (r.extract 0 (countS 1048576 (some y)).1.toNat).data.toList) : Int) = (countS 4294967295 (countS 1048576 (some y)).2).1 then some (r.extract 0 (countS 1048576 (some y)).1.toNat) else none) := rfl
    go_wp2_with fail
    clear hy
    have hc := Lib.hid (qcount_any wr.heap.size (some y) 1048576 _ HQ.out)
    generalize wr.alloc (.cells #[.string y, .bool false] 41) = w0 at *
    clear HQ
    generalize (countS 1048576 (some y)).1 = n at *
    generalize (countS 1048576 (some y)).2 = st1 at *
    refine hc.out.mono ?_
    rintro e w1 ⟨rfl, h1, h2⟩
    have hrow1 := hrow0.kept h2 (fun q hq e => by have := hown.out q hq; injection e with e; omega)
    have hl1 := Lib.hid (low_of hl0.out h2 (Nat.le_refl _) hl0.out.size)
    have hc2 := Lib.hid (qcount_any wr.heap.size st1 4294967295 w1 h1)
    clear hc h1 h2 hrow0 hl0
    generalize (countS 4294967295 st1).1 = sm at *
    generalize (countS 4294967295 st1).2 = st2 at *
    go_wp2_with fail
    refine hc2.out.mono ?_
    rintro e w2 ⟨rfl, h1, h2⟩
    have hrow2 := hrow1.kept h2 (fun q hq e => by have := hown.out q hq; injection e with e; omega)
    have hl2 := Lib.hid (hlow.out.trans ((low_of hl1.out h2 (Nat.le_refl _) hl1.out.size).mono hzw))
    have hz2' := hl2.out.size
    obtain ⟨-, s2, hs2, hblk, hsx⟩ := h1
    have d0 := hblk.cell 0
    have d1 := hblk.cell 1
    clear hc2 h2 hrow1 hl1 hlow hblk hown
    cases st2 with
    | none =>
      have hq := hstop.out hfs.out
      have HP : Hid (SPost x w (.returned (.tuple #[.slice A L.length c, .int .i64 g])) w2) := by
        unfold Hid SPost
        rw [hq]
        exact ⟨_, rfl, hrow2, hl2.out⟩
      simp at d0 d1
      clear hstop hnext hfit hq hrow2 hfs hsx
      go_wp2
      go_ret2
      exact HP.out
    | some r =>
      obtain rfl := hsx r rfl
      simp at d0 d1
      obtain ⟨m, hm⟩ : ∃ m : Nat, n = m := ⟨n.toNat, by have := hbd.out.1; omega⟩
      subst hm
      have hm2 : m ≤ 1048576 := by have := hbd.out.2; omega
      simp only [Int.toNat_natCast] at hfs
      by_cases hfitm : m ≤ r.size
      · have hsz : (r.extract 0 m).size = m := by rw [ByteArray.size_extract]; omega
        have hS := fun w => sumR (r.extract 0 m) w (by omega)
        have hcmp : Hid (sumB (r.extract 0 m) = cmore 0 (be 4 (m : Int) ++ (r.extract 0 m).data.toList)) := by unfold sumB; rw [hsz]; rfl
        rw [hsz] at hS
        have HS := Lib.hid hS
        have HN := Lib.hid (fun w => qcountB_any (m : Int) w)
        have zN : (bz (be 4 (m : Int))).size = 4 := by rw [bz_size, be_length]
        clear hS
        have e1 : Hid (firstS y = if (sumB (r.extract 0 m) : Int) = sm then some (r.extract 0 m) else none) := by
          show _ = _
          rw [hfs.out, hcmp.out]
          by_cases hq : (cmore 0 (be 4 (m : Int) ++ (r.extract 0 m).data.toList) : Int) = sm
          · rw [if_pos ⟨by omega, hq⟩, if_pos hq]
          · rw [if_neg (fun h => hq h.2), if_neg hq]
        clear hfs hcmp
        have hbx : Hid (r.extract 0 m = r.extract 0 m) := rfl
        generalize hbody : r.extract 0 m = body at *
        generalize sumB body = cs at *
        generalize bz (be 4 (m : Int)) = hd at *
        clear hbx
        by_cases hq : (cs : Int) = sm
        · have hfy := e1.out.trans (if_pos hq)
          have hG := Lib.hid (hnext.out body hfy)
          have hft := hfit.out body hfy
          rw [HEZ.out] at hft
          clear e1 hnext hstop hfit hfy HEZ
          subst hq
          go_wp2_with fail
          clear hbody
          refine (HN.out _).mono ?_
          rintro e w3 ⟨rfl, hb⟩
          have hrow3 := hrow2.below hb
          have hl3 := Lib.hid (hl2.out.trans (hb.mono hz2'))
          have hz3 := hl3.out.size
          clear hb hrow2 hl2 d0 d1
          go_wp2_with fail
          refine (HS.out _).mono ?_
          rintro e w4 ⟨rfl, rfl⟩
          clear HS HN
          go_wp2_with (at_builtin; refine wpList_append_row _ rfl _ _ 22 rfl w.heap.size 9 i0 _ 1 16 Try.underlying22 hi0 hz0 hz1 hz2 rfl (by decide) _ _ rfl (hrow3.alloc _) (fun _ => rfl) _ body rfl (cells_new _ _ _) (one_t _) (by unfold maxLen; omega) (by omega) (by simp; omega) ?_; intro v' w5 hrow5 hgrow5)
          have hl5 := Lib.hid (low_row hl3.out hrow3 (Nat.le_refl _) hz3 hgrow5)
          clear hgrow5 hrow3
          go_wp2
          go_roundw
          case rel => exact ⟨k + 1, g + (8 + body.size), L ++ [body], by rw [hsz]; go_num, hG, hrow5, hl5⟩
          case measure => simp [intOf]; omega
        · have hst := hstop.out (e1.out.trans (if_neg hq))
          have hqb : ((cs : Int) != sm) = true := by simpa using hq
          have hqb2 : ((cs : Int) == sm) = false := by simpa using hq
          clear e1 hnext hstop hfit
          go_wp2_with fail
          clear hbody
          refine (HN.out _).mono ?_
          rintro e w3 ⟨rfl, hb⟩
          have hrow3 := hrow2.below hb
          have hl3 := Lib.hid (hl2.out.trans (hb.mono hz2'))
          have HP : Hid (SPost x w (.returned (.tuple #[.slice A L.length c, .int .i64 g])) w3) := by
            unfold Hid SPost
            rw [hst]
            exact ⟨_, rfl, hrow3, hl3.out⟩
          clear hb hrow2 hrow3 hl2 d0 d1 hst
          go_wp2_with fail
          refine (HS.out _).mono ?_
          rintro e w4 ⟨rfl, rfl⟩
          go_wp2
          go_ret2
          exact HP.out
      · have hst := hstop.out (by rw [hfs.out]; exact if_neg (fun h => hfitm (by have := h.1; omega)))
        have HP : Hid (SPost x w (.returned (.tuple #[.slice A L.length c, .int .i64 g])) w2) := by
          unfold Hid SPost
          rw [hst]
          exact ⟨_, rfl, hrow2, hl2.out⟩
        clear hstop hnext hfit hst hrow2 hfs
        go_wp2
        go_ret2
        exact HP.out
end Go.Proofs.Ytgojeoebflpglaa.fr
