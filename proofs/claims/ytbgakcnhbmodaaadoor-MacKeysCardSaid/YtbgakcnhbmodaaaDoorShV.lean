/- The walks of the reference of sha: the sum, the digits. -/
import Derived.Test.YtbgakcnhbmodaaaDoorShU
import Derived.Test.YtbgakcnhbmodaaaDoorShI
namespace Go.Proofs.YtbgakcnhbmodaaaDoor.shr
open Go.ChangeShapes Go.WideShapes Go.ChangeAt Go.RowKit Go.Proofs.Aid
open Go.Proofs.YtbgakcnhbmodaaaDoor.oc (be be_length bz bz_append)
open Go.Proofs.YtbgakcnhbmodaaaDoor.sha
set_option linter.unusedVariables false
structure Rm (w0 : World) (g : Nat) (r : List Nat) (w' : World) : Prop where
  h : Blk w' g 34 (wcell .i64 8 r)
  m : w0.heap.size ≤ g
  low : Below w0.heap.size w0 w'
theorem Rm.next {w0 w1 w2 : World} {g : Nat} {r : List Nat} (h : Rm w0 g r w1) (hb : Below w1.heap.size w1 w2) : Rm w0 g r w2 :=
  ⟨h.h.below hb h.h.lt, h.m, h.low.trans (hb.mono (by have := h.h.lt; have := h.m; omega))⟩
theorem Rm.drew {w0 w1 : World} {g : Nat} {r : List Nat} (h : Rm w0 g r w1) : Rm w0 g r w1.drew := ⟨h.h.drew, h.m, h.low.drew⟩
theorem Rm.row {w0 w1 : World} {g : Nat} {r : List Nat} (h : Rm w0 g r w1) (r' : List Nat) : Rm w0 g r' (w1.setRow g (wcell .i64 8 r')) := ⟨blk_setRow h.h, h.m, below_setRow h.low h.m _⟩
def RSummed (s : List UInt8) (w : World) (e : Ending) (w' : World) : Prop := e = .returned (.string (bz (shaB s))) ∧ Below w.heap.size w w'
theorem slice_to {P : Program} {t : TypeId} (ht : P.underlying t = some .string) (w : World) (s : ByteArray) (h : Nat) (h1 : h ≤ s.size) {H : Int} (hH : H = h) :
    (Instr.slice t (.string s) none (some (.int .i64 H)) none).run P w = .ok (.string (s.extract 0 h)) w := by
  subst hH
  have := run_slice_string_h (P := P) w t s ht .i64 (h : Int) (by omega) (by omega)
  simpa using this
set_option maxRecDepth 100000 in
set_option maxHeartbeats 4000000 in
theorem rsum_any (s : ByteArray) (w : World) (hs : s.size ≤ 1099511627776) :
    Calls Tryd.prog 11 #[.string s] w (RSummed s.data.toList w) := by
  have HP := Lib.hid (fun w' => pad_any s w' hs)
  have hpl : (padB s.data.toList).length % 64 = 0 ∧ (padB s.data.toList).length ≤ 1099511627900 := by
    have h1 := fill_whole s.size
    have h2 := fillB_length s.size
    have h3 := noughts_lt s.size
    have h4 : (padB s.data.toList).length = s.size + (fillB s.size).length := by rw [padB, List.length_append]; simp
    omega
  have HOUT : Hid (∀ q, q = (padB s.data.toList).length / 64 → outS (shaRun h0 (padB s.data.toList) q) = shaB s.data.toList) := fun q h => by rw [h]; rfl
  go_enter Tryd.func11, Tryd.ntmps11
  go_wp2_with fail
  have HT0 : Hid (Rm w w.heap.size (shaRun h0 (padB s.data.toList) 0).list (w.alloc (.cells #[.int .i64 1779033703, .int .i64 3144134277, .int .i64 1013904242, .int .i64 2773480762, .int .i64 1359893119, .int .i64 2600822924, .int .i64 528734635, .int .i64 1541459225] 34))) :=
    ⟨Blk.new w _ _, Nat.le_refl _, below_lit w _⟩
  generalize w.alloc (.cells #[.int .i64 1779033703, .int .i64 3144134277, .int .i64 1013904242, .int .i64 2773480762, .int .i64 1359893119, .int .i64 2600822924, .int .i64 528734635, .int .i64 1541459225] 34) = wa at *
  refine (HP.out wa).mono ?_
  rintro e w1 ⟨rfl, hb⟩
  have HT1 := Lib.hid (HT0.out.next hb)
  clear hb HT0 HP
  generalize padB s.data.toList = pad at *
  obtain ⟨p0, hp0, hp0l⟩ : ∃ p : ByteArray, bz pad = p ∧ p.data.toList = pad.drop (64 * 0) := ⟨_, rfl, rfl⟩
  rw [hp0]
  have HP0 := Lib.hid hp0l
  clear hp0 hp0l
  generalize (#[.int .i64 1779033703, .int .i64 3144134277, .int .i64 1013904242, .int .i64 2773480762, .int .i64 1359893119, .int .i64 2600822924, .int .i64 528734635, .int .i64 1541459225] : Array Value) = vc at *
  go_wp2
  go_loopw [4] (fun sv wr => ∃ (q : Nat) (p : ByteArray), q ≤ pad.length / 64 ∧ sv = .string p ∧ Hid (p.data.toList = pad.drop (64 * q)) ∧ Hid (Rm w w.heap.size (shaRun h0 pad q).list wr)) (fun sv _ => (match sv with | .string x => x.size | _ => 0))
  case atStart => exact ⟨0, p0, by omega, rfl, HP0, HT1⟩
  case round =>
    clear HT1 HP0
    obtain ⟨q, p, hq, rfl, hp, hT⟩ := hrel
    have hps : p.size = pad.length - 64 * q := by
      have h := congrArg List.length hp.out
      rw [Array.length_toList, List.length_drop] at h
      exact h
    by_cases hlt : q < pad.length / 64
    · have h64 : 64 ≤ p.size := by omega
      have hok := Lib.hid (shaRun_ok h0_ok pad q)
      have HN := Lib.hid (show shaRun h0 pad (q + 1) = blockS (shaRun h0 pad q) ((pad.drop (64 * q)).take 64) from rfl)
      generalize shaRun h0 pad q = r at *
      have HTD := Lib.hid hT.out.drew
      have c6 := fun j => hT.out.h.cell j
      have p0' := c6 0
      have p1 := c6 1
      have p2 := c6 2
      have p3 := c6 3
      have p4 := c6 4
      have p5 := c6 5
      have p6 := c6 6
      have p7 := c6 7
      rw [← c64_list] at p0' p1 p2 p3 p4 p5 p6 p7
      simp only [c64, List.getElem?_toArray, List.getElem?_cons_zero, List.getElem?_cons_succ] at p0' p1 p2 p3 p4 p5 p6 p7
      clear c6 hT
      have hsl := fun w => slice_to (P := Tryd.prog) Tryd.underlying9 w p 64 h64 (H := 64) rfl
      have hsl2 := fun w => slice_from (P := Tryd.prog) Tryd.underlying9 w p 64 h64 (L := 64) rfl
      have hc := Lib.hid (extract_list p 0 64)
      have hcs : Hid ((p.extract 0 64).size = 64) := by unfold Hid; rw [ByteArray.size_extract]; omega
      have hd := Lib.hid (extract_list p 64 p.size)
      have hds : Hid ((p.extract 64 p.size).size < p.size) := by unfold Hid; rw [ByteArray.size_extract]; omega
      have HPL : Hid (p.data.toList.length = p.size) := by unfold Hid; simp
      generalize p.extract 0 64 = c at *
      generalize p.extract 64 p.size = d at *
      have HC : Hid (∀ w', Calls Tryd.prog 17 #[.agg #[.int .i64 (r.a : Int), .int .i64 r.b, .int .i64 r.c, .int .i64 r.d, .int .i64 r.e, .int .i64 r.f, .int .i64 r.g, .int .i64 r.h], .string c] w' (Blocked (blockS r c.data.toList) w')) := fun w' => block_any r hok.out c w' hcs.out
      have HPS := Lib.hid hps
      have h64' : (64 : Int) ≤ (p.size : Int) := by omega
      clear hps
      go_wp2
      go_still_tail 3, (by kernel_rfl)
      change wpList _ _ _ _ _ wr.drew
      generalize wr.drew = wd at *
      go_wp2_with (first
        | (refine (HC.out wd).mono ?_; rintro e w4 ⟨rfl, hb⟩; have HT4 := Lib.hid (HTD.out.next hb); clear hb HTD)
        | (refine wpList_store_row rfl 34 _ _ rfl w.heap.size (c64 (blockS r c.data.toList)) rfl rfl 34 (wcell .i64 8 r.list) HT4.out.h (info42c _) rfl (one42 _) ?_))
      go_roundw
      case rel =>
        refine ⟨q + 1, d, by omega, rfl, ?_, ?_⟩
        · show d.data.toList = _
          rw [hd.out, List.take_of_length_le (by rw [List.length_drop, HPL.out]; omega), hp.out, List.drop_drop]
          congr 1
        · rw [HN.out]
          have e : (pad.drop (64 * q)).take 64 = c.data.toList := by rw [hc.out, hp.out]; rfl
          rw [e]
          exact HT4.out.row _
      case measure => exact hds.out
    · have hps2 : p.size = 0 := by omega
      have hps3 : ¬ (64 : Int) ≤ (p.size : Int) := by omega
      have hqe : q = pad.length / 64 := by omega
      have HO := Lib.hid (HOUT.out q hqe)
      have HPO := Lib.hid (shaRun_ok h0_ok pad q)
      clear hps hps2 hqe HOUT
      generalize shaRun h0 pad q = rF at *
      have HLT := Lib.hid (S8.list_lt HPO.out)
      have HLE : Hid (rF.list.length = 8) := rfl
      have HO2 : Hid (∀ k, k = 8 → bz ((rF.list.take k).flatMap (fun n : Nat => be 4 (n : Int))) = bz (shaB s.data.toList)) := fun k h => by rw [h, ← HO.out]; rfl
      have H0 : Hid ((⟨#[]⟩ : ByteArray) = bz ((rF.list.take 0).flatMap (fun n : Nat => be 4 (n : Int)))) := rfl
      clear HO HPO
      generalize rF.list = rl at *
      go_wp2
      go_loopw [5, 6] (fun sv iv wr => ∃ k : Nat, k ≤ 8 ∧ iv = .int .i64 k ∧ sv = .string (bz ((rl.take k).flatMap (fun n : Nat => be 4 (n : Int)))) ∧ Hid (Rm w w.heap.size rl wr)) (fun _ iv _ => 8 - (intOf iv).toNat)
      case atStart => exact ⟨0, by omega, rfl, by rw [← H0.out], hT⟩
      case round =>
        clear H0 hT
        obtain ⟨k, hk, rfl, rfl, hT⟩ := hrel
        by_cases hk8 : k < 8
        · have hkl : k < rl.length := by rw [HLE.out]; exact hk8
          have ck := hT.out.h.cell k
          rw [wcell_at hk8, Go.Proofs.YtbgakcnhbmodaaaDoor.sha.getD_in hkl] at ck
          have htk := Lib.hid (List.take_succ_eq_append_getElem hkl)
          generalize rl[k] = x at *
          have hap := Lib.hid (bz_append ((rl.take k).flatMap (fun n : Nat => be 4 (n : Int))) (be 4 (x : Int)))
          have hzs : (bz ((rl.take k).flatMap (fun n : Nat => be 4 (n : Int)))).size ≤ 32 := by
            rw [oc.bz_size, List.length_flatMap]
            simp only [be_length]
            have : (rl.take k).length ≤ 8 := by rw [List.length_take]; omega
            generalize rl.take k = m at this
            clear htk hap hT
            rw [List.map_const']; simp; omega
          have hxs : (bz (be 4 (x : Int))).size = 4 := by rw [oc.bz_size, be_length]
          have HCO := Lib.hid (oc.qcountB_any (x : Int) wr)
          generalize bz ((rl.take k).flatMap (fun n : Nat => be 4 (n : Int))) = z at *
          go_wp2_with fail
          refine HCO.out.mono ?_
          rintro e w2 ⟨rfl, hb⟩
          have hT2 := Lib.hid (hT.out.next hb)
          clear hb hT HCO
          generalize bz (be 4 (x : Int)) = y at *
          go_wp2
          go_roundw
          case rel => exact ⟨k + 1, by omega, by go_num, by rw [htk.out, List.flatMap_append, hap.out]; simp, hT2⟩
          case measure => simp [intOf]; omega
        · have hk88 : k = 8 := by omega
          have HFF : Hid (RSummed s.data.toList w (.returned (.string (bz (shaB s.data.toList)))) wr) := ⟨rfl, hT.out.low⟩
          have HX := Lib.hid (HO2.out k hk88)
          rw [HX.out]
          clear hk88 hT
          go_wp2
          go_ret
          exact HFF.out
end Go.Proofs.YtbgakcnhbmodaaaDoor.shr
