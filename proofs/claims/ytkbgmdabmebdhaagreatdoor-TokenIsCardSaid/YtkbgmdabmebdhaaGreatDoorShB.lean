/- The walks of sha: the 64 words of a block. -/
import Derived.Test.YtkbgmdabmebdhaaGreatDoorShA
import Derived.Test.YtkbgmdabmebdhaaGreatDoorShO
import Derived.Laws.IdiomStrings
import Derived.IntWalk
import Derived.StillTailTactics
namespace Go.Proofs.YtkbgmdabmebdhaaGreatDoor.sha
open Go.ChangeShapes Go.WideShapes Go.ChangeAt Go.RowKit Go.Proofs.Aid
set_option linter.unusedVariables false
/-- Inside a word: the block of the words, the block of the four bytes. -/
structure In1 (w : World) (gB : Nat) (b : List UInt8) (t : Nat) (c : ByteArray) (Z0 : Array Value) (j : Nat) (w' : World) : Prop where
  hb : Blk w' (w.heap.size + 1) 111 (wcell .u32 64 (words16 b t ++ [wordN (c.data.toList.take j)]))
  hr : Blk w' w.heap.size 111 Z0
  hlow : Below w.heap.size w w'
  hne : w.heap.size + 1 < gB
  hcell : ∀ i (h : i < c.data.toList.length), w'.cell? ⟨gB, i, none⟩ = some (.int .u8 (c.data.toList[i]).toNat)
def Sched (b : List UInt8) (w : World) (e : Ending) (w' : World) : Prop := e = .returned (.agg (wcell .u32 64 (sched b))) ∧ Below w.heap.size w w'
theorem zero49 (w : World) : (zeroValue 111).run Tryz.prog w = .ok (.agg (wcell .u32 64 [])) w := by kernel_rfl
theorem info49 : (Tryz.prog.info? 111).map (·.size) = some 64 := by kernel_rfl
set_option maxRecDepth 100000 in
set_option maxHeartbeats 4000000 in
theorem scheduled_any (s : ByteArray) (w : World) (hs : s.size = 64) :
    Calls Tryz.prog 82 #[.string s] w (Sched s.data.toList w) := by
  have hz := zero49
  have HZ := Lib.hid (show wcell .u32 64 [] = wcell .u32 64 (words16 s.data.toList 0) from rfl)
  have HZS := Lib.hid (show (wcell .u32 64 []).size = 64 from wcell_size _ _ _)
  generalize wcell .u32 64 [] = Z0 at *
  have HS := Lib.hid hs
  clear hs
  go_enter Tryz.func82, Tryz.ntmps82
  go_wp2
  have HB : Hid (Blk ((w.alloc (.cells Z0 111)).alloc (.cells Z0 111)) (w.heap.size + 1) 111 (wcell .u32 64 (words16 s.data.toList 0))) := by
    have := Blk.new (w.alloc (.cells Z0 111)) 111 Z0
    rw [World.size_alloc] at this
    have e := HZ.out
    rw [← e]
    exact this
  have HR : Hid (Blk ((w.alloc (.cells Z0 111)).alloc (.cells Z0 111)) w.heap.size 111 Z0) := (Blk.new w _ Z0).alloc _
  have HL := Lib.hid (below_lit2 w (.cells Z0 111) (.cells Z0 111))
  go_loopw [12] (fun iv wr => ∃ t : Nat, t ≤ 16 ∧ iv = .int .i64 t ∧ Hid (Blk wr (w.heap.size + 1) 111 (wcell .u32 64 (words16 s.data.toList t))) ∧ Hid (Blk wr w.heap.size 111 Z0) ∧ Hid (Below w.heap.size w wr)) (fun iv _ => 16 - (intOf iv).toNat)
  case atStart => exact ⟨0, by omega, rfl, HB, HR, HL⟩
  case round =>
    clear HB HR HL hz
    obtain ⟨t, ht, rfl, hb, hr, hlow⟩ := hrel
    by_cases hlt : t < 16
    · have h64 : 4 * t + 4 ≤ s.size := by have := HS.out; omega
      have hsl := fun w => run_slice_string_lh (P := Tryz.prog) Tryz.underlying9 w s .i64 .i64 (4 * t) (4 * t + 4) (by omega) h64 (L := 4 * (t : Int)) (H := 4 * (t : Int) + 4) (by omega) (by omega)
      have hc := Lib.hid (extract_list s (4 * t) (4 * t + 4))
      have hcs : (s.extract (4 * t) (4 * t + 4)).size = 4 := by rw [ByteArray.size_extract]; omega
      generalize s.extract (4 * t) (4 * t + 4) = c at *
      have hcv := run_bytes_of_string (P := Tryz.prog) wr 9 57 5 c Tryz.underlying9 Tryz.underlying57 Tryz.underlying5
      rw [hcs] at hcv
      have HCS := Lib.hid hcs
      clear hcs
      generalize grownCap wr 4 0 5 = cap at *
      have HI : Hid (In1 w wr.heap.size s.data.toList t c Z0 0 (wr.alloc (Obj.cells (bytesRow c cap) 5 ((bytesRow c cap).size, (bytesRow c cap).size + 1))).drew) := by
        refine ⟨?_, hr.out.alloc _, (hlow.out.alloc hlow.out.size _).drew, by have := hb.out.lt; omega, fun i hi => ?_⟩
        · have := hb.out.alloc (Obj.cells (bytesRow c cap) 5 ((bytesRow c cap).size, (bytesRow c cap).size + 1))
          rw [show (c.data.toList.take 0) = [] from rfl, show wordN [] = 0 from rfl, wcell_zero]
          exact this
        · have h0 := cell_of_row ((wr.alloc (Obj.cells (bytesRow c cap) 5 ((bytesRow c cap).size, (bytesRow c cap).size + 1)))) wr.heap.size i _ _ _ (heap_alloc_new wr _)
          refine Eq.trans h0 ?_
          have hi2 : i < c.data.size := by simpa using hi
          rw [bytesRow, Array.getElem?_append_left (by simpa using hi)]
          rw [Array.getElem?_map, Array.getElem?_eq_getElem hi2]
          simp
      clear hb hr hlow
      go_wp2_with fail
      generalize (wr.alloc (Obj.cells (bytesRow c cap) 5 ((bytesRow c cap).size, (bytesRow c cap).size + 1))).drew = w1 at *
      clear hsl hcv
      have hcl : c.data.toList.length = 4 := by have := HCS.out; simpa using this
      have HCL := Lib.hid hcl
      clear hcl
      generalize wr.heap.size = gB at *
      go_loopw [24] (fun iv w2 => ∃ j : Nat, j ≤ 4 ∧ iv = .int .i64 j ∧ Hid (In1 w gB s.data.toList t c Z0 j w2)) (fun iv _ => 4 - (intOf iv).toNat)
      case atStart => exact ⟨0, by omega, rfl, HI⟩
      case round =>
        clear HI
        obtain ⟨j, hj, rfl, hI⟩ := hrel
        by_cases hjl : j < 4
        · have hjc : j < c.data.toList.length := by have := HCL.out; omega
          have cb := hI.out.hcell j hjc
          have c0 := hI.out.hb.cell t
          have f0 := hI.out.hb.frozen t
          have hlen := words16_length s.data.toList t
          rw [wcell_at (by omega)] at c0
          have hgd := getD_last (words16 s.data.toList t) (wordN (c.data.toList.take j))
          rw [hlen] at hgd
          rw [hgd] at c0
          have hx : wordN (c.data.toList.take j) < 16777216 := wordN_lt3 (by rw [List.length_take]; omega)
          have hN := Lib.hid (wordN_snoc (c.data.toList.take j) c.data.toList[j])
          have hT := Lib.hid (List.take_succ_eq_append_getElem hjc)
          have hor := or_word (wordN (c.data.toList.take j)) c.data.toList[j] hx
          have HX : Hid (In1 w gB s.data.toList t c Z0 (j + 1) (wr.setCell ⟨w.heap.size + 1, t, none⟩ (.int .u32 ((wordN (c.data.toList.take j) * 256 + (c.data.toList[j]).toNat : Nat) : Int)))) := by
            refine ⟨?_, hI.out.hr.far (p := ⟨w.heap.size + 1, t, none⟩) (by simp) _, hI.out.hlow.setCell (p := ⟨w.heap.size + 1, t, none⟩) (by simp) _, hI.out.hne, fun i hi => ?_⟩
            · have h1 := hI.out.hb.set_ t (.int .u32 ((wordN (c.data.toList.take j) * 256 + (c.data.toList[j]).toNat : Nat) : Int))
              have h2 := wcell_last .u32 64 (words16 s.data.toList t) (wordN (c.data.toList.take j)) (wordN (c.data.toList.take j) * 256 + (c.data.toList[j]).toNat)
              rw [hlen] at h2
              rw [hT.out, hN.out]
              rw [h2] at h1
              exact h1
            · rw [World.cell?_setCell_other _ _ _ _ (by intro e; have := hI.out.hne; injection e; omega)]
              exact hI.out.hcell i hi
          clear hlen hgd hI
          generalize wordN (c.data.toList.take j) = x at *
          generalize c.data.toList[j] = cj at *
          go_wp2
          go_roundw
          case rel => exact ⟨j + 1, by omega, by go_num, HX⟩
          case measure => simp [intOf]; omega
        · have hj4 : j = 4 := by omega
          subst hj4
          have HQ : Hid (Blk wr (w.heap.size + 1) 111 (wcell .u32 64 (words16 s.data.toList (t + 1)))) := by
            have h1 := hI.out.hb
            have h2 : c.data.toList.take 4 = (s.data.toList.drop (4 * t)).take 4 := by
              rw [List.take_of_length_le (by have := HCL.out; omega), hc.out]; congr 1; omega
            rw [h2, ← words16_succ] at h1
            exact h1
          have HQ2 := Lib.hid hI.out.hr
          have HQ3 := Lib.hid hI.out.hlow
          clear hI
          go_wp2
          go_roundw
          case rel => exact ⟨t + 1, by omega, by go_num, HQ, HQ2, HQ3⟩
          case measure => simp [intOf]; omega
    · have ht16 : t = 16 := by omega
      subst ht16
      go_wp2
      rw [show ((16 : Nat) : Int) = 16 from rfl]
      have HB : Hid (Blk wr (w.heap.size + 1) 111 (wcell .u32 64 (schedN 0 (words16 s.data.toList 16)))) := hb
      clear hb
      have hwl := words16_length s.data.toList 16
      have hwb := words16_lt s.data.toList 16
      have HF : Hid (∀ t : Nat, t = 48 → schedN t (words16 s.data.toList 16) = sched s.data.toList) := fun t h => by rw [h]; rfl
      generalize words16 s.data.toList 16 = l0 at *
      have HLN := Lib.hid (schedN_length l0)
      have HLT := Lib.hid (schedN_lt hwb)
      have HL0 := Lib.hid hwl
      clear hwl hwb
      go_loopw [39] (fun iv wr => ∃ t : Nat, t ≤ 48 ∧ iv = .int .i64 t ∧ Hid (Blk wr (w.heap.size + 1) 111 (wcell .u32 64 (schedN t l0))) ∧ Hid (Blk wr w.heap.size 111 Z0) ∧ Hid (Below w.heap.size w wr)) (fun iv _ => 48 - (intOf iv).toNat)
      case atStart => exact ⟨0, by omega, rfl, HB, hr, hlow⟩
      case round =>
        clear HB hr hlow
        obtain ⟨t, ht, rfl, hb, hr, hlow⟩ := hrel
        by_cases hlt : t < 48
        · have hlen := HLN.out t
          rw [HL0.out] at hlen
          have c1 := hb.out.cell (t + 1)
          have c14 := hb.out.cell (t + 14)
          have c9 := hb.out.cell (t + 9)
          have c0 := hb.out.cell t
          have f16 := hb.out.frozen (t + 16)
          have c16 := hb.out.cell (t + 16)
          rw [wcell_at (by omega)] at c1 c14 c9 c0 c16
          have y1 := allLt_getD (HLT.out t) (t + 1)
          have y14 := allLt_getD (HLT.out t) (t + 14)
          have y9 := allLt_getD (HLT.out t) (t + 9)
          have y0 := allLt_getD (HLT.out t) t
          have HN := Lib.hid (show nextW (schedN t l0) t = (sg1 ((schedN t l0).getD (t + 14) 0) + (schedN t l0).getD (t + 9) 0 + sg0 ((schedN t l0).getD (t + 1) 0) + (schedN t l0).getD t 0) % 4294967296 from rfl)
          have HX : Hid (∀ m n : Nat, n = nextW (schedN t l0) t → Blk ((wr.drewN m).drew.setCell ⟨w.heap.size + 1, t + 16, none⟩ (.int .u32 (n : Int))) (w.heap.size + 1) 111 (wcell .u32 64 (schedN (t + 1) l0))) := by
            intro m n hn
            have h1 := (hb.out.drewN m).drew.set_ (t + 16) (.int .u32 (n : Int))
            have h2 := wcell_push .u32 64 (schedN t l0) n
            rw [hlen, Nat.add_comm 16 t, hn] at h2
            rw [hn] at h1 ⊢
            rw [h2] at h1
            exact h1
          have HR2 : Hid (∀ m v, Blk ((wr.drewN m).drew.setCell ⟨w.heap.size + 1, t + 16, none⟩ v) w.heap.size 111 Z0) := fun m v => (hr.out.drewN m).drew.far (p := ⟨w.heap.size + 1, t + 16, none⟩) (by simp) v
          have HL2 : Hid (∀ m v, Below w.heap.size w ((wr.drewN m).drew.setCell ⟨w.heap.size + 1, t + 16, none⟩ v)) := fun m v => (below_drewN hlow.out m).drew.setCell (p := ⟨w.heap.size + 1, t + 16, none⟩) (by simp) v
          clear hlen hb hr hlow
          generalize (schedN t l0).getD (t + 1) 0 = a at *
          generalize (schedN t l0).getD (t + 14) 0 = b at *
          generalize (schedN t l0).getD (t + 9) 0 = q9 at *
          generalize (schedN t l0).getD t 0 = q0 at *
          generalize (schedN t l0).getD (t + 16) 0 = q16 at *
          have hrt := rotr_lt
          have e1 := u32_xor_nat (rotr a 7) (rotr a 18) (hrt _ _) (hrt _ _)
          have e2 : bits .xor .u32 ((rotr a 7 ^^^ rotr a 18 : Nat) : Int) ((a : Int) / 8) = ((rotr a 7 ^^^ rotr a 18 ^^^ a >>> 3 : Nat) : Int) := by
            have := u32_xor_nat (rotr a 7 ^^^ rotr a 18) (a / 8) (xor_lt (hrt _ _) (hrt _ _)) (by omega)
            rw [Nat.shiftRight_eq_div_pow]; exact this
          have e3 := u32_xor_nat (rotr b 17) (rotr b 19) (hrt _ _) (hrt _ _)
          have e4 : bits .xor .u32 ((rotr b 17 ^^^ rotr b 19 : Nat) : Int) ((b : Int) / 1024) = ((rotr b 17 ^^^ rotr b 19 ^^^ b >>> 10 : Nat) : Int) := by
            have := u32_xor_nat (rotr b 17 ^^^ rotr b 19) (b / 1024) (xor_lt (hrt _ _) (hrt _ _)) (by omega)
            rw [Nat.shiftRight_eq_div_pow]; exact this
          have s1 := sg0_lt y1
          have s2 := sg1_lt y14
          have H1 := Lib.hid (show rotr a 7 ^^^ rotr a 18 ^^^ a >>> 3 = sg0 a from rfl)
          have H2 := Lib.hid (show rotr b 17 ^^^ rotr b 19 ^^^ b >>> 10 = sg1 b from rfl)
          rw [H1.out] at e2
          rw [H2.out] at e4
          have b9 : (t : Int) + 9 < 64 := by omega
          have b16 : (t : Int) + 16 < 64 := by omega
          have w1 : IntKind.i64.wrap ((t : Int) + 9) = (t : Int) + 9 := IntWalk.i64_in _ (by omega)
          have w2 : IntKind.i64.wrap ((t : Int) + 16) = (t : Int) + 16 := IntWalk.i64_in _ (by omega)
          have w3 : ((t : Int) + 9).toNat = t + 9 := by omega
          have w4 : ((t : Int) + 16).toNat = t + 16 := by omega
          generalize sg0 a = S0 at *
          generalize sg1 b = S1 at *
          go_wp2
          go_quiet (fail)
          go_wp2_with (go_at_call 90; refine (right_any _ _ _ (by assumption) (by decide) (by decide)).mono ?_; rintro e w' ⟨rfl, rfl⟩)
          have k9 : (wr.drewN nq).cell? ⟨w.heap.size + 1, t + 9, none⟩ = some (.int .u32 (q9 : Int)) := c9
          have k0 : (wr.drewN nq).cell? ⟨w.heap.size + 1, t, none⟩ = some (.int .u32 (q0 : Int)) := c0
          have k16 : (wr.drewN nq).cell? ⟨w.heap.size + 1, t + 16, none⟩ = some (.int .u32 (q16 : Int)) := c16
          have g16 : (wr.drewN nq).frozen? ⟨w.heap.size + 1, t + 16, none⟩ = false := f16
          have HX1 := Lib.hid (HX.out nq)
          have HR1 := Lib.hid (HR2.out nq)
          have HL1 := Lib.hid (HL2.out nq)
          clear c9 c0 c16 f16 c1 c14 HX HR2 HL2
          generalize wr.drewN nq = w2 at *
          have d9 : w2.drew.cell? ⟨w.heap.size + 1, t + 9, none⟩ = some (.int .u32 (q9 : Int)) := k9
          have d0 : w2.drew.cell? ⟨w.heap.size + 1, t, none⟩ = some (.int .u32 (q0 : Int)) := k0
          have d16 : w2.drew.cell? ⟨w.heap.size + 1, t + 16, none⟩ = some (.int .u32 (q16 : Int)) := k16
          have h16 : w2.drew.frozen? ⟨w.heap.size + 1, t + 16, none⟩ = false := g16
          clear k9 k0 k16 g16
          go_region
          go_wp2
          go_roundw
          case rel => exact ⟨t + 1, by omega, by go_num, HX1.out ((S1 + q9 + S0 + q0) % 4294967296) HN.out.symm, HR1.out _, HL1.out _⟩
          case measure => simp [intOf]; omega
        · have ht48 : t = 48 := by omega
          have hb2 := hb.out
          rw [HF.out t ht48] at hb2
          have HB2 := Lib.hid hb2
          have hsz := wcell_size .u32 64 (sched s.data.toList)
          have hone := wcell_one .u32 64 (sched s.data.toList)
          clear hb hb2
          have HP : Hid (∀ w', Below w.heap.size w w' → Sched s.data.toList w (.returned (.agg (wcell .u32 64 (sched s.data.toList)))) w') := fun _ h => ⟨rfl, h⟩
          generalize wcell .u32 64 (sched s.data.toList) = cs at *
          have hi49 : (Tryz.prog.info? 111).map (·.size) = some cs.size := by rw [hsz]; exact info49
          have HI := Lib.hid hi49
          have HO := Lib.hid hone
          have HSZ := Lib.hid hsz
          clear hsz hone hi49
          go_wp2_with (first
            | (refine wpList_load_row rfl 111 _ rfl (w.heap.size + 1) rfl 111 cs (0, 0) _ HB2.out Tryz.underlying111 rfl HI.out ?_)
            | (refine wpList_store_row rfl 111 _ _ rfl w.heap.size cs rfl rfl 111 Z0 hr.out HI.out (HZS.out.trans HSZ.out.symm) HO.out ?_))
          exact bodyPost_ret (v := .agg cs) (results_cell_row (p := 2) (ty := 111) rfl _ _ w.heap.size 111 cs (0, 0) _ rfl (blk_setRow hr.out) Tryz.underlying111 rfl HI.out) rfl (HP.out _ (below_setRow hlow.out (Nat.le_refl _) cs))
end Go.Proofs.YtkbgmdabmebdhaaGreatDoor.sha
