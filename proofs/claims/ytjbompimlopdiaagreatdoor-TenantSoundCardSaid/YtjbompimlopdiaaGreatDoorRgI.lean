/- Entries of a registry: Put, Join and Set of the reference. -/
import Derived.Test.YtjbompimlopdiaaGreatDoorRgH
namespace Go.Proofs.YtjbompimlopdiaaGreatDoor.rgy
open Go.ChangeShapes Go.WideShapes Go.ChangeAt Go.RowKit Go.Proofs.Aid Go.Proofs.YtjbompimlopdiaaGreatDoor.name Go.Proofs.YtjbompimlopdiaaGreatDoor.reg
def RowP (w : World) (xs : List En) (c : Int) (e : Ending) (w' : World) : Prop := ∃ v, e = .returned (.tuple #[v, .int .i64 c]) ∧ Row w' w.heap.size 38 4 En.cells v xs ∧ Below w.heap.size w w'
def putsE (a b : List En) : List En := b.foldl putE a
theorem putE_len (l : List En) (x : En) : (putE l x).length ≤ l.length + 1 := by
  unfold putE putAt
  generalize pos l x.key = k
  split
  · split
    · simp only [List.length_append, List.length_take, List.length_cons, List.length_drop]; omega
    · simp only [List.length_append, List.length_take, List.length_cons, List.length_drop]; omega
  · simp only [List.length_append, List.length_take, List.length_cons, List.length_nil]; omega
theorem putsE_len (a b : List En) : (putsE a b).length ≤ a.length + b.length := by
  unfold putsE
  induction b generalizing a with
  | nil => simp
  | cons x b ih =>
    rw [List.foldl_cons, List.length_cons]
    have := ih (putE a x)
    have := putE_len a x
    omega
theorem puts_next {a b : List En} {k : Nat} (h : k < b.length) : putsE a (b.take (k + 1)) = putE (putsE a (b.take k)) b[k] := by
  unfold putsE; rw [List.take_succ_eq_append_getElem h, List.foldl_append]; rfl
theorem putE_sz {l : List En} {x : En} (hl : ∀ r ∈ l, r.sz) (hx : x.sz) : ∀ r ∈ putE l x, r.sz := by
  have hj : ∀ a b : Rg, (a.join b = a ∨ a.join b = b) := fun a b => by unfold Rg.join; split <;> simp
  intro r hr
  unfold putE putAt at hr
  rw [List.mem_append] at hr
  rcases hr with hr | hr
  · exact hl r (List.mem_of_mem_take hr)
  · split at hr
    · rename_i h
      split at hr
      · rcases List.mem_cons.1 hr with rfl | hr
        · have h1 := hl _ (List.getElem_mem h)
          refine ⟨hx.1, ?_⟩
          rcases hj l[pos l x.key].reg x.reg with e | e <;> simp only [e]
          · exact h1.2
          · exact hx.2
        · exact hl r (List.mem_of_mem_drop hr)
      · rcases List.mem_cons.1 hr with rfl | hr
        · exact hx
        · exact hl r (List.mem_of_mem_drop hr)
    · rw [List.mem_singleton] at hr; subst hr; exact hx
set_option maxRecDepth 100000 in
set_option maxHeartbeats 4000000 in
theorem rputC_any (w : World) (A : Option Addr) (ca : Nat) (xs : List En) (x : En) (hl : xs.length ≤ 4000) (hc : xs.length ≤ ca) (h1 : Reads w w.heap.size 4 A xs.length (xs.flatMap En.cells)) (hz : ∀ r ∈ xs, r.sz) (hx : x.sz) :
    Calls Tryz.prog 21 #[.slice A xs.length ca, x.val] w (RowP w (if may xs && isEntry x then putE xs x else []) (if may xs && isEntry x then 0 else 1)) := by
  have H1 := Lib.hid h1
  have HS := Lib.hid hz
  have HX := Lib.hid hx
  clear h1 hz hx
  have hb0 := Lib.hid (Blk.new w 38 #[.string x.key, .int .i64 x.reg.n, .string x.reg.by_, .string x.reg.value])
  have hl0 := Lib.hid (below_lit w (.cells #[.string x.key, .int .i64 x.reg.n, .string x.reg.by_, .string x.reg.value] 38))
  have hlen := Lib.hid (putE_len xs x)
  obtain ⟨kk, n, b, v⟩ := x
  simp only at hb0 hl0
  show Calls Tryz.prog 21 #[.slice A xs.length ca, .agg #[.string kk, .int .i64 n, .string b, .string v]] w _
  cases hm : may xs with
  | false =>
    have HM := Lib.hid hm
    clear hm
    go_enter Tryz.func21, Tryz.ntmps21
    go_wp2_with fail
    refine (rmayL_any _ A ca xs (by omega) (H1.out.more_below hl0.out) HS.out).mono ?_
    rw [HM.out]
    rintro e w1 ⟨rfl, hb⟩
    have HL := Lib.hid (hl0.out.trans (hb.mono (by simp)))
    clear hb
    go_wp2
    go_ret2
    exact ⟨_, rfl, Row.nil _ _ _ _ _, HL.out⟩
  | true =>
    have HM := Lib.hid hm
    clear hm
    cases hi : isEntry ⟨kk, n, b, v⟩ with
    | false =>
      have HI := Lib.hid hi
      clear hi
      go_enter Tryz.func21, Tryz.ntmps21
      go_wp2_with fail
      refine (rmayL_any _ A ca xs (by omega) (H1.out.more_below hl0.out) HS.out).mono ?_
      rw [HM.out]
      rintro e w1 ⟨rfl, hb⟩
      have HL := Lib.hid (hl0.out.trans (hb.mono (by simp)))
      have hb1 := hb0.out.below hb hb0.out.lt
      have d0 : w1.cell? ⟨w.heap.size, 0, none⟩ = some (.string kk) := by rw [hb1.cell]; rfl
      have d1 : w1.cell? ⟨w.heap.size, 1, none⟩ = some (.int .i64 n) := by rw [hb1.cell]; rfl
      have d2 : w1.cell? ⟨w.heap.size, 2, none⟩ = some (.string b) := by rw [hb1.cell]; rfl
      have d3 : w1.cell? ⟨w.heap.size, 3, none⟩ = some (.string v) := by rw [hb1.cell]; rfl
      clear hb hb1
      go_wp2_with fail
      refine (isEntry_any ⟨kk, n, b, v⟩ _ HX.out).mono ?_
      rw [HI.out]
      rintro e w2 ⟨rfl, hb⟩
      have HL2 := Lib.hid (HL.out.trans (hb.mono HL.out.size))
      clear hb
      go_wp2
      go_ret2
      exact ⟨_, rfl, Row.nil _ _ _ _ _, HL2.out⟩
    | true =>
      have HI := Lib.hid hi
      clear hi
      go_enter Tryz.func21, Tryz.ntmps21
      go_wp2_with fail
      refine (rmayL_any _ A ca xs (by omega) (H1.out.more_below hl0.out) HS.out).mono ?_
      rw [HM.out]
      rintro e w1 ⟨rfl, hb⟩
      have HL := Lib.hid (hl0.out.trans (hb.mono (by simp)))
      have hb1 := hb0.out.below hb hb0.out.lt
      have d0 : w1.cell? ⟨w.heap.size, 0, none⟩ = some (.string kk) := by rw [hb1.cell]; rfl
      have d1 : w1.cell? ⟨w.heap.size, 1, none⟩ = some (.int .i64 n) := by rw [hb1.cell]; rfl
      have d2 : w1.cell? ⟨w.heap.size, 2, none⟩ = some (.string b) := by rw [hb1.cell]; rfl
      have d3 : w1.cell? ⟨w.heap.size, 3, none⟩ = some (.string v) := by rw [hb1.cell]; rfl
      have HB1 := Lib.hid hb1
      clear hb hb1
      go_wp2_with fail
      refine (isEntry_any ⟨kk, n, b, v⟩ _ HX.out).mono ?_
      rw [HI.out]
      rintro e w2 ⟨rfl, hb⟩
      have HL2 := Lib.hid (HL.out.trans (hb.mono HL.out.size))
      have hb2 := HB1.out.below hb HB1.out.lt
      clear d0 d1 d2 d3
      have d0 : w2.cell? ⟨w.heap.size, 0, none⟩ = some (.string kk) := by rw [hb2.cell]; rfl
      have d1 : w2.cell? ⟨w.heap.size, 1, none⟩ = some (.int .i64 n) := by rw [hb2.cell]; rfl
      have d2 : w2.cell? ⟨w.heap.size, 2, none⟩ = some (.string b) := by rw [hb2.cell]; rfl
      have d3 : w2.cell? ⟨w.heap.size, 3, none⟩ = some (.string v) := by rw [hb2.cell]; rfl
      clear hb hb2
      go_wp2_with fail
      refine (rput_any w2 A ca xs ⟨kk, n, b, v⟩ (by omega) hc (H1.out.more_below HL2.out)).mono ?_
      rintro e w3 ⟨v3, rfl, hrow, hlow⟩
      have hz2 := HL2.out.size
      have HL3 := Lib.hid (HL2.out.trans (hlow.mono hz2))
      have hr3 := Lib.hid (hrow.more hz2)
      obtain ⟨A3, c3, rfl⟩ := hrow.form
      have hl3 : (putE xs ⟨kk, n, b, v⟩).length ≤ 4096 := by have := hlen.out; omega
      clear hrow hlow d0 d1 d2 d3
      generalize putE xs ⟨kk, n, b, v⟩ = L at *
      go_wp2
      go_ret2
      exact ⟨_, rfl, hr3.out, HL3.out⟩
end Go.Proofs.YtjbompimlopdiaaGreatDoor.rgy
