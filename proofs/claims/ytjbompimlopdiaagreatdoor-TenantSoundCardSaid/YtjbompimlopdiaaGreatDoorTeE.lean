/- All tenants, by the package: the walk. -/
import Derived.Test.YtjbompimlopdiaaGreatDoorTeD
namespace Go.Proofs.YtjbompimlopdiaaGreatDoor.te
set_option linter.unusedSimpArgs false
open Go.ChangeShapes Go.WideShapes Go.ChangeAt Go.RowKit Go.Proofs.Aid
open Go.Sort (Holds putRow grow)
open Go.Proofs.YtjbompimlopdiaaGreatDoor.rgy (En elemE RowE underP)
open Go.Proofs.YtjbompimlopdiaaGreatDoor.texts (tc)
open Go.Proofs.YtjbompimlopdiaaGreatDoor.nm (Lets strs partsS strs_length)
/-- Sorted, and compacted: what the two calls leave. -/
theorem sorted_at {w w2 : World} {g n : Nat} {os : Array Obj} {B : Nat} {W : World} {ts : List ByteArray} (hH : Holds encStr w g 0 (srt.data ts).toArray) (hg : g < w.heap.size) (hB : B ≤ g) (hlow : Below B W w)
    (e : w2 = grow (putRow encStr (Go.Sort.ahead w n) g 0 ((srt.data ts).mergeSort fun x y => decide (x ≤ y)).toArray) os) :
    Holds encStr w2 g 0 ((srt.data ts).mergeSort fun x y => decide (x ≤ y)).toArray ∧ g < w2.heap.size ∧ Below B W w2 ∧ Below B w w2 := by
  have h1 := Go.Sort.holds_putRow encStr (Go.Sort.ahead w n) g 0 _ ((srt.data ts).mergeSort fun x y => decide (x ≤ y)).toArray (Go.Sort.holds_ahead encStr w n g 0 _ hH) (by simp)
  have h2 := srt.below_putRow (srt.below_ahead (Below.refl B w) n) hB encStr 0 ((srt.data ts).mergeSort fun x y => decide (x ≤ y)).toArray
  have hsz : (putRow encStr (Go.Sort.ahead w n) g 0 ((srt.data ts).mergeSort fun x y => decide (x ≤ y)).toArray).heap.size = w.heap.size := by
    show (w.heap.modify g _).size = _
    rw [Array.size_modify]
  subst e
  have h3 := srt.below_grow' h2 os (by rw [hsz]; omega)
  refine ⟨Go.Sort.holds_grow encStr _ os g 0 _ (by rw [hsz]; exact hg) h1, ?_, hlow.trans h3, h3⟩
  show g < (_ ++ os).size
  rw [Array.size_append, hsz]; omega
theorem compact_at {w w2 : World} {g q : Nat} {B : Nat} {W : World} {zs : List (List UInt8)} (hH : Holds encStr w g 0 zs.toArray) (hg : g < w.heap.size) (hB : B ≤ g) (hlow : Below B W w)
    (e : w2 = putRow encStr (Go.Sort.ahead w q) g 0 (Lib.compact zs ++ List.replicate (zs.length - (Lib.compact zs).length) []).toArray) :
    Reads w2 w2.heap.size 1 (some ⟨g, 0, none⟩) (Lib.compact zs).length ((strs (Lib.compact zs)).flatMap tc) ∧ Below B W w2 := by
  have hc := Lib.compact_length_le zs
  have h1 := Go.Sort.holds_putRow encStr (Go.Sort.ahead w q) g 0 _ (Lib.compact zs ++ List.replicate (zs.length - (Lib.compact zs).length) []).toArray (Go.Sort.holds_ahead encStr w q g 0 _ hH) (by simp; omega)
  have h2 := srt.below_putRow (srt.below_ahead hlow q) hB encStr 0 (Lib.compact zs ++ List.replicate (zs.length - (Lib.compact zs).length) []).toArray
  have hsz : (putRow encStr (Go.Sort.ahead w q) g 0 (Lib.compact zs ++ List.replicate (zs.length - (Lib.compact zs).length) []).toArray).heap.size = w.heap.size := by
    show (w.heap.modify g _).size = _
    rw [Array.size_modify]
  rw [← e] at h1 h2 hsz
  have h3 := srt.reads_of_holds h1 (by rw [hsz]; exact hg) (Lib.compact zs).length (by simp)
  rw [List.take_left'] at h3
  · exact ⟨h3, h2⟩
  · rfl
theorem slice_base {w : World} {base : Nat} {A : Option Addr} {n c : Nat} {ts : List ByteArray} {e : TypeId} (h : Row w base e 1 tc (.slice A n c) ts) (hn : 0 < ts.length) : ∃ g, A = some ⟨g, 0, none⟩ ∧ base ≤ g ∧ g < w.heap.size ∧ n = ts.length ∧ n ≤ c := by
  obtain ⟨A', c', e', hc, -⟩ := h.reads'
  injection e' with e1 e2 e3
  subst e1 e2 e3
  rcases h.2 with ⟨h', _⟩ | ⟨g, _, _, h', _⟩
  · injection h' with h1 h2; omega
  · injection h' with h1
    subst h1
    exact ⟨g, rfl, (h.own rfl).1, (h.own rfl).2, rfl, hc⟩
set_option maxRecDepth 100000 in
set_option maxHeartbeats 4000000 in
theorem all_any (w : World) (A : Option Addr) (ca : Nat) (xs : List En) (hl : xs.length ≤ 100000) (h1 : Reads w w.heap.size 4 A xs.length (xs.flatMap En.cells)) (hz : ∀ x ∈ xs, x.sz) (hk : ∀ x ∈ xs, x.key.size ≤ 1000) (HLt : Hid (Lets w)) :
    Calls Tryz.prog 11 #[.slice A xs.length ca] w (TextsAt w (allT xs)) := by
  have HR := Lib.hid h1
  have hb0 := below_lit2 w (.cells #[.slice A xs.length ca] 22) (.cells #[.slice none 0 0] 30)
  have HL := Lib.hid hb0
  have HPl := Lib.hid ((Blk.new w 22 #[.slice A xs.length ca]).alloc (.cells #[.slice none 0 0] 30))
  have hPn := Blk.new (w.alloc (.cells #[.slice A xs.length ca] 22)) 30 #[.slice none 0 0]
  rw [World.size_alloc] at hPn
  have HPn := Lib.hid hPn
  have HU := Lib.hid (rgy.under_any ((w.alloc (.cells #[.slice A xs.length ca] 22)).alloc (.cells #[.slice none 0 0] 30)) A ca xs fT hl (h1.more_below hb0) hz (by decide))
  have hsz0 : ((w.alloc (.cells #[.slice A xs.length ca] 22)).alloc (.cells #[.slice none 0 0] 30)).heap.size = w.heap.size + 1 + 1 := by rw [World.size_alloc, World.size_alloc]
  have hGA := Lib.hid (gat_all xs (xs.filter (underP fT)))
  have hAT := Lib.hid (show allT xs = sets.all [] (srt.data (((xs.filter (underP fT)).flatMap pick).filter (isT xs))) from rfl)
  have hUk : ∀ x ∈ xs.filter (underP fT), x.key.size ≤ 1000 := fun x hx => hk x (List.mem_filter.1 hx).1
  have hUl : (xs.filter (underP fT)).length ≤ 100000 := Nat.le_trans (List.length_filter_le _ _) hl
  have hstep := Lib.hid (fun k h => @gat_step xs (xs.filter (underP fT)) k h)
  have hlen := Lib.hid (gat_len xs (xs.filter (underP fT)))
  have hst := Lib.hid (show gat xs (xs.filter (underP fT)) 0 = [] from by simp [gat])
  clear h1 hz hk hb0 hPn
  have cl0 : ((w.alloc (.cells #[.slice A xs.length ca] 22)).alloc (.cells #[.slice none 0 0] 30)).cell? ⟨w.heap.size, 0, none⟩ = some (.slice A xs.length ca) := by rw [HPl.out.cell]; rfl
  go_enter Tryz.func11, Tryz.ntmps11
  go_wp2_with fail
  generalize (w.alloc (.cells #[.slice A xs.length ca] 22)).alloc (.cells #[.slice none 0 0] 30) = w0 at *
  generalize xs.filter (underP fT) = U at *
  refine HU.out.mono ?_
  rintro e w1 ⟨v, rfl, hRow, hb⟩
  obtain ⟨AU, cU, rfl⟩ := hRow.form
  have hown : ∀ q, (Value.slice AU U.length cU).ownBlock = some q → q < w1.heap.size ∧ q ≠ w.heap.size + 1 := fun q hq => by have := hRow.own hq; omega
  have hsz1 := hb.size
  have HN0 : Nms w1.heap.size (w.heap.size + 1) w1 (gat xs U 0) := by
    rw [hst.out]
    exact ⟨⟨_, HPn.out.below hb HPn.out.lt, Row.nil _ _ _ _ _⟩, by omega, Nat.le_refl _⟩
  have HRow := Lib.hid hRow
  have HOwn := Lib.hid hown
  have HPl1 := Lib.hid (HPl.out.below hb HPl.out.lt)
  have HL1 := Lib.hid (HL.out.trans (hb.mono (by omega)))
  clear HU HPl HPn HL hRow hown hb cl0
  go_wp2_with fail
  go_loopw [12] (fun iv wr => ∃ k : Nat, k ≤ U.length ∧ iv = .int .i64 k ∧ Hid (Nms w1.heap.size (w.heap.size + 1) wr (gat xs U k)) ∧ Hid (But w1.heap.size (w.heap.size + 1) w1 wr)) (fun iv _ => U.length - (intOf iv).toNat)
  case atStart => exact ⟨0, by omega, rfl, HN0, But.refl _ _ _⟩
  case round =>
    clear HN0
    obtain ⟨k, hkk, rfl, HN, HBt⟩ := hrel
    have hszr := HBt.out.low.size
    by_cases hlt : k < U.length
    · have hrowr := HBt.out.row HRow.out HOwn.out
      obtain ⟨A', c', e', -, hrd⟩ := hrowr.reads'
      injection e' with e1 e2 e3
      subst e1 e3
      obtain ⟨ad, rfl, had, c0, c1, c2, c3⟩ := elemE hrd hlt
      have hro := Lib.hid (hstep.out k hlt)
      have hll := hlen.out k hkk
      have hxk := hUk _ (List.getElem_mem hlt)
      clear hrd hrowr e2
      generalize gat xs U k = L at *
      have hp3 := Lib.hid (fun p q r => @pick_three U[k] p q r)
      have hpo := Lib.hid (@pick_other U[k])
      generalize hpp : pick U[k] = pk at *
      clear hpp
      generalize U[k] = xe at *
      obtain ⟨kk, ⟨nn, bb, vv⟩⟩ := xe
      simp only at c0 c1 c2 c3 hxk hp3 hpo
      have hba := below_lit wr (.cells #[.string kk, .int .i64 nn, .string bb, .string vv] 38)
      have HLr := Lib.hid (HL1.out.trans (HBt.out.low.mono (by omega)))
      have hHN := Lib.hid (HN.out.below hba)
      have hHB := Lib.hid (HBt.out.trans (But.of_below (B := w1.heap.size) (g := w.heap.size + 1) (hba.mono hszr) (by omega)))
      clear hba
      go_wp2_with fail
      refine (nm.parts_any kk _ (by omega) (Lib.hid (HLt.out.next (HLr.out.alloc (by omega) _)))).mono ?_
      rintro e w2 ⟨AP, cP, rfl, -, hRP, hb⟩
      have hHN2 := Lib.hid (hHN.out.below hb)
      have hHB2 := Lib.hid (hHB.out.trans (But.of_below (B := w1.heap.size) (g := w.heap.size + 1) (hb.mono (by simp; omega)) (by omega)))
      clear hHN hHB hb c0 c1 c2 c3 HN HBt HLr
      have hps := nm.partsS_small kk
      generalize partsS kk = P at *
      by_cases h3 : P.length = 3
      case neg =>
        have h3' : ((P.length : Int) == 3) = false := by rw [beq_eq_false_iff_ne]; omega
        have hpk := Lib.hid (hpo.out h3)
        rw [hpk.out] at hro
        clear hRP
        go_wp2
        go_roundw
        case rel => exact ⟨k + 1, by omega, by go_num, by rw [hro.out, List.filter_nil, List.append_nil]; exact hHN2, hHB2⟩
        case measure => simp [intOf]; omega
      obtain ⟨p, q, r, rfl⟩ : ∃ p q r, P = [p, q, r] := by
        match P, h3 with
        | [p, q, r], _ => exact ⟨p, q, r, rfl⟩
      have hpk := Lib.hid (hp3.out p q r rfl)
      clear hp3 hpo h3
      obtain ⟨ap, rfl, -, hat⟩ := hRP.2 (by simp)
      have c1 : w2.cell? ⟨ap.block, ap.off + 1, none⟩ = some (.string q) := by have := hat 1 _ rfl; simpa [Addr.add] using this
      have c2 : w2.cell? ⟨ap.block, ap.off + 2, none⟩ = some (.string r) := by have := hat 2 _ rfl; simpa [Addr.add] using this
      clear hat hRP
      have hqz := hps q (by simp)
      clear hps
      by_cases hr : r = fS
      case neg =>
        have hrn := lit_ne (l := [115, 101, 99, 114, 101, 116]) hr
        rw [hpk.out, if_neg hr] at hro
        go_wp2
        go_roundw
        case rel => exact ⟨k + 1, by omega, by go_num, by rw [hro.out, List.filter_nil, List.append_nil]; exact hHN2, hHB2⟩
        case measure => simp [intOf]; omega
      subst hr
      rw [hpk.out, if_pos rfl] at hro
      have hpl2 : Blk w2 w.heap.size 22 #[.slice A xs.length ca] := (hHB2.out.block _ (by omega) (by omega)).trans HPl1.out
      have cl2 : w2.cell? ⟨w.heap.size, 0, none⟩ = some (.slice A xs.length ca) := by rw [hpl2.cell]; rfl
      have HGt := Lib.hid (gather_any w2 w1.heap.size (w.heap.size + 1) L ⟨w.heap.size, 0, none⟩ A ca xs q hl hHN2.out cl2 (HR.out.more_below (HL1.out.trans (hHB2.out.low.mono (by omega)))) (by omega) (by omega))
      clear hpl2 cl2 hpk
      go_wp2_with fail
      refine HGt.out.mono ?_
      rintro e w3 ⟨rfl, HN3, HB3⟩
      have HN3 := Lib.hid HN3
      have HB3 := Lib.hid (hHB2.out.trans HB3)
      clear HGt c1 c2
      go_wp2
      go_roundw
      case rel => exact ⟨k + 1, by omega, by go_num, by rw [hro.out]; exact HN3, HB3⟩
      case measure => simp [intOf]; omega
    · have hkl : k = U.length := by omega
      subst hkl
      obtain ⟨⟨v, hBlk, hRow⟩, -, hle⟩ := HN.out
      have hlr := Lib.hid (HL1.out.trans (HBt.out.low.mono (by omega)))
      rw [hGA.out] at hRow
      have htb := hlen.out U.length (Nat.le_refl _)
      rw [hGA.out] at htb
      clear HN hstep hlen hst
      generalize (U.flatMap pick).filter (isT xs) = ts at *
      obtain ⟨A1, c1, rfl⟩ := hRow.form
      have cg : wr.cell? ⟨w.heap.size + 1, 0, none⟩ = some (.slice A1 ts.length c1) := by rw [hBlk.cell]; rfl
      clear hBlk hGA
      by_cases h0 : ts.length = 0
      · have hx := List.length_eq_zero_iff.1 h0
        subst hx
        clear hRow
        go_wp2_with fail
        refine (srt.sortNone A1 c1 wr).mono ?_
        rintro e w2 ⟨rfl, rfl⟩
        go_wp2_with fail
        refine (Tryz.slices_Compact_string_empty A1 c1 _).mono ?_
        rintro e w3 ⟨rfl, rfl⟩
        go_wp2
        go_ret
        rw [hAT.out]
        exact ⟨A1, c1, rfl, Nat.zero_le _, ⟨rfl, fun h => absurd h (Nat.lt_irrefl 0)⟩, hlr.out⟩
      · obtain ⟨g', rfl, hgb, hgl, -, hcc⟩ := slice_base hRow (by omega)
        have hH := srt.holds_of_row hRow
        have hd : (srt.data ts).length = ts.length := by simp [srt.data]
        have hSrt := Lib.hid (srt.sortS g' 0 c1 (srt.data ts) wr hH hgl (by omega))
        rw [hd] at hSrt
        have hat := fun (w2 : World) (n : Nat) (os : Array Obj) => Lib.hid (sorted_at (w2 := w2) (n := n) (os := os) hH hgl hgb (Below.refl w1.heap.size wr))
        have hset := Lib.hid (show Lib.compact ((srt.data ts).mergeSort fun x y => decide (x ≤ y)) = sets.all [] (srt.data ts) from sets.sort_compact _)
        have hml : ((srt.data ts).mergeSort fun x y => decide (x ≤ y)).length = ts.length := by rw [List.length_mergeSort, hd]
        clear hRow hH hd
        generalize (srt.data ts).mergeSort (fun x y => decide (x ≤ y)) = zs at *
        go_wp2_with fail
        refine hSrt.out.mono ?_
        rintro e w2 ⟨rfl, n, os, he⟩
        obtain ⟨hH2, hg2, hlow2, -⟩ := (hat w2 n os).out he
        have cg2 : w2.cell? ⟨w.heap.size + 1, 0, none⟩ = some (.slice (some ⟨g', 0, none⟩) ts.length c1) := (hlow2.cell (by show w.heap.size + 1 < w1.heap.size; omega)).trans cg
        have hC := Lib.hid (Tryz.slices_Compact_string g' 0 c1 zs w2 hH2 (by omega) (by omega))
        rw [hml] at hC
        clear hat he hSrt cg
        go_wp2_with fail
        refine hC.out.mono ?_
        rintro e w3 ⟨rfl, q, he3⟩
        rw [← hml] at he3
        obtain ⟨hR3, hlow3⟩ := compact_at hH2 hg2 hgb hlow2 he3
        have hcl := Lib.compact_length_le zs
        rw [hset.out] at hR3 hcl
        have HR3 := Lib.hid hR3
        have HL3 := Lib.hid (hlr.out.trans (hlow3.mono (by omega)))
        clear he3 hC hH2 hlow2 hR3 hlow3 cg2
        generalize sets.all [] (srt.data ts) = S at *
        go_wp2
        go_ret
        rw [hAT.out]
        exact ⟨some ⟨g', 0, none⟩, c1, by rw [← hset.out]; rfl, by omega, HR3.out, HL3.out⟩
end Go.Proofs.YtjbompimlopdiaaGreatDoor.te
