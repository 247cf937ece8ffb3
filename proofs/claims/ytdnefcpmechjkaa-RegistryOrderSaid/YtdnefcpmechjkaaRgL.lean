/- Entries of a registry: Join, Put and Set of the package, Set of the reference. -/
import Derived.Test.YtdnefcpmechjkaaRgK
namespace Go.Proofs.Ytdnefcpmechjkaa.rgy
open Go.ChangeShapes Go.WideShapes Go.ChangeAt Go.RowKit Go.Proofs.Aid Go.Proofs.Ytdnefcpmechjkaa.name Go.Proofs.Ytdnefcpmechjkaa.reg
set_option maxRecDepth 100000 in
set_option maxHeartbeats 8000000 in
theorem join_no (w : World) (A B : Option Addr) (ca cb : Nat) (xs ys : List En) (hl : xs.length + ys.length ≤ 4000) (h1 : Reads w w.heap.size 4 A xs.length (xs.flatMap En.cells)) (h2 : Reads w w.heap.size 4 B ys.length (ys.flatMap En.cells)) (hz : ∀ r ∈ xs, r.sz) (hzb : ∀ r ∈ ys, r.sz) (hm : may xs = false ∨ (may xs = true ∧ may ys = false)) :
    Calls Try.prog 21 #[.slice A xs.length ca, .slice B ys.length cb] w (RowP w [] 1) := by
  have HS := Lib.hid hz
  have HT := Lib.hid hzb
  have hl0 := Lib.hid (below_lit2 w (.cells #[.slice A xs.length ca] 22) (.cells #[.slice B ys.length cb] 22))
  have H1 := Lib.hid (h1.below hl0.out)
  have H2 := Lib.hid (h2.below hl0.out)
  have hB2 : Blk ((w.alloc (.cells #[.slice A xs.length ca] 22)).alloc (.cells #[.slice B ys.length cb] 22)) (w.heap.size + 1) 22 #[.slice B ys.length cb] := by have := Blk.new (w.alloc (.cells #[.slice A xs.length ca] 22)) 22 #[.slice B ys.length cb]; rwa [World.size_alloc] at this
  have HB2 := Lib.hid hB2
  clear hz hzb h1 h2 hB2
  rcases hm with hm | ⟨hm, hm2⟩
  · have HK := Lib.hid (chk_no hm)
    clear hm
    go_enter Try.func21, Try.ntmps21
    go_wp2
    go_step3
    go_wp2_with fail
    have hgz : w.heap.size ≤ ((w.alloc (.cells #[.slice A xs.length ca] 22)).alloc (.cells #[.slice B ys.length cb] 22)).heap.size := hl0.out.size
    generalize (w.alloc (.cells #[.slice A xs.length ca] 22)).alloc (.cells #[.slice B ys.length cb] 22) = w2 at *
    refine (chk_any w2 A ca xs (by omega) (H1.out.more hgz) HS.out).mono ?_
    rw [HK.out]
    rintro e w3 ⟨rfl, hb⟩
    have HL := Lib.hid (hl0.out.trans (hb.mono hgz))
    clear hb
    go_wp2
    try rw [Exit.noGoto_ret]
    go_ret2
    exact ⟨_, rfl, Row.nil _ _ _ _ _, HL.out⟩
  · have HK := Lib.hid (chk_ok hm)
    have HK2 := Lib.hid (chk_no hm2)
    clear hm hm2
    go_enter Try.func21, Try.ntmps21
    go_wp2
    go_step3
    go_wp2_with fail
    have hgz : w.heap.size ≤ ((w.alloc (.cells #[.slice A xs.length ca] 22)).alloc (.cells #[.slice B ys.length cb] 22)).heap.size := hl0.out.size
    generalize (w.alloc (.cells #[.slice A xs.length ca] 22)).alloc (.cells #[.slice B ys.length cb] 22) = w2 at *
    refine (chk_any w2 A ca xs (by omega) (H1.out.more hgz) HS.out).mono ?_
    rw [HK.out]
    rintro e w3 ⟨rfl, hb⟩
    have HL := Lib.hid (hl0.out.trans (hb.mono hgz))
    have hb3 := HB2.out.below hb HB2.out.lt
    have d2 : w3.cell? ⟨w.heap.size + 1, 0, none⟩ = some (.slice B ys.length cb) := by rw [hb3.cell]; rfl
    have H3 := Lib.hid (H2.out.below (hb.mono hgz))
    have hgz3 : w.heap.size ≤ w3.heap.size := by have := hb.size; omega
    clear hb hb3
    go_wp2_with fail
    refine (chk_any w3 B cb ys (by omega) (H3.out.more hgz3) HT.out).mono ?_
    rw [HK2.out]
    rintro e w4 ⟨rfl, hb⟩
    have HL2 := Lib.hid (HL.out.trans (hb.mono hgz3))
    clear hb
    go_wp2
    try rw [Exit.noGoto_ret]
    go_ret2
    exact ⟨_, rfl, Row.nil _ _ _ _ _, HL2.out⟩
theorem join_any (w : World) (A B : Option Addr) (ca cb : Nat) (xs ys : List En) (hl : xs.length + ys.length ≤ 4000) (hc : xs.length ≤ ca) (hcb : ys.length ≤ cb) (h1 : Reads w w.heap.size 4 A xs.length (xs.flatMap En.cells)) (h2 : Reads w w.heap.size 4 B ys.length (ys.flatMap En.cells)) (hz : ∀ r ∈ xs, r.sz) (hzb : ∀ r ∈ ys, r.sz) :
    Calls Try.prog 21 #[.slice A xs.length ca, .slice B ys.length cb] w (RowP w (if may xs && may ys then merge xs ys else []) (if may xs && may ys then 0 else 1)) := by
  cases hm : may xs with
  | false => exact join_no w A B ca cb xs ys hl h1 h2 hz hzb (.inl hm)
  | true =>
    cases hm2 : may ys with
    | false => exact join_no w A B ca cb xs ys hl h1 h2 hz hzb (.inr ⟨hm, hm2⟩)
    | true => exact join_yes w A B ca cb xs ys hl hc hcb h1 h2 hz hzb hm hm2
theorem may_one (x : En) : may [x] = isEntry x := by
  unfold may okAt isEntry
  simp [List.range_succ]
set_option maxHeartbeats 4000000 in
theorem put_any (w : World) (A : Option Addr) (ca : Nat) (xs : List En) (x : En) (hl : xs.length ≤ 3000) (hc : xs.length ≤ ca) (h1 : Reads w w.heap.size 4 A xs.length (xs.flatMap En.cells)) (hz : ∀ r ∈ xs, r.sz) (hx : x.sz) :
    Calls Try.prog 19 #[.slice A xs.length ca, x.val] w (RowP w (if may xs && isEntry x then merge xs [x] else []) (if may xs && isEntry x then 0 else 1)) := by
  have hl0 := Lib.hid (below_lit2 w (.cells #[.string x.key, .int .i64 x.reg.n, .string x.reg.by_, .string x.reg.value] 35) (.cells #[.string x.key, .int .i64 x.reg.n, .string x.reg.by_, .string x.reg.value] 35))
  have hR := lit3 w 35 [x] (.cells #[.string x.key, .int .i64 x.reg.n, .string x.reg.by_, .string x.reg.value] 35) En.len
  have H1 := Lib.hid (h1.more_below hl0.out)
  have HS := Lib.hid hz
  have HX := Lib.hid hx
  rw [← may_one]
  have HRR := Lib.hid hR
  clear h1 hz hx hR
  obtain ⟨kk, n, b, v⟩ := x
  have hj := fun w' h1 h2 => join_any w' A (some ⟨w.heap.size + 1, 0, none⟩) ca 1 xs [⟨kk, n, b, v⟩] (by simp; omega) hc (by simp) h1 h2 HS.out (fun r hr => by rw [List.mem_singleton] at hr; subst hr; exact HX.out)
  generalize (if may xs && may [(⟨kk, n, b, v⟩ : En)] then merge xs [⟨kk, n, b, v⟩] else []) = L at *
  generalize (if may xs && may [(⟨kk, n, b, v⟩ : En)] then (0 : Int) else 1) = c at *
  have HJ := Lib.hid hj
  clear hj
  show Calls Try.prog 19 #[.slice A xs.length ca, .agg #[.string kk, .int .i64 n, .string b, .string v]] w _
  go_enter Try.func19, Try.ntmps19
  go_wp2_with fail
  refine (HJ.out _ H1.out HRR.out).mono ?_
  rintro e w3 ⟨v3, rfl, hrow, hlow⟩
  have hr := Lib.hid (hrow.more (base' := w.heap.size) (by simp; omega))
  have hl2 := Lib.hid (hl0.out.trans (hlow.mono (by simp; omega)))
  obtain ⟨A9, c9, rfl⟩ := hrow.form
  clear hrow hlow
  go_wp2
  go_ret2
  exact ⟨_, rfl, hr.out, hl2.out⟩
end Go.Proofs.Ytdnefcpmechjkaa.rgy
