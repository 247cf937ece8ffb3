/- TopoBack: a member is told by its register; entries that are no members change nothing. -/
import Derived.Test.YtfkjoeibofnnoaaDoorTpK
namespace Go.Proofs.YtfkjoeibofnnoaaDoor.tp
set_option linter.unusedSimpArgs false
open Go.ChangeShapes Go.WideShapes Go.ChangeAt Go.RowKit Go.Proofs.Aid
open Go.Proofs.YtfkjoeibofnnoaaDoor.nm (Lets joinS partsS)
open Go.Proofs.YtfkjoeibofnnoaaDoor.name (isName fits)
open Go.Proofs.YtfkjoeibofnnoaaDoor.texts (tc)
open Go.Proofs.YtfkjoeibofnnoaaDoor.rgy (En underP)
theorem name_free {l : List UInt8} (h : isName l = true) : l ≠ [] ∧ l.length ≤ 16 ∧ ∀ c ∈ l, c ≠ 47 := by
  unfold isName at h
  rw [Bool.and_eq_true, Bool.and_eq_true, decide_eq_true_eq, decide_eq_true_eq] at h
  obtain ⟨⟨h1, h2⟩, h3⟩ := h
  refine ⟨fun e => by rw [e] at h1; simp at h1, h2, fun c hc e => ?_⟩
  unfold fits at h3
  have := List.all_eq_true.1 h3 c hc
  rw [e] at this
  exact absurd this (by decide)
theorem strs_data (xs : List ByteArray) : nm.strs (xs.map (·.data.toList)) = xs := by
  unfold nm.strs
  rw [List.map_map]
  conv => rhs; rw [← List.map_id xs]
  apply List.map_congr_left
  intro x _
  apply ByteArray.ext; simp
theorem path_back {xs : List ByteArray} (h : ∀ x ∈ xs, isName x.data.toList = true) : partsS (joinS xs) = xs := by
  unfold partsS
  rw [nm.joinS_list, seg.parts_join, strs_data]
  intro y hy
  obtain ⟨x, hx, rfl⟩ := List.mem_map.1 hy
  exact ⟨(name_free (h x hx)).1, (name_free (h x hx)).2.2⟩
theorem st_name (u : Bool) : isName (st u).data.toList = true := by cases u <;> decide
/-- A member is told by what its register has. -/
theorem back {node r z : ByteArray} {u : Bool} (hr : isName r.data.toList = true) (hz : isName z.data.toList = true) : memV node (valueV r z u) = ⟨node, r, z, u⟩ := by
  have hp : partsS (valueV r z u) = [r, z, st u] := path_back (by
    intro x hx
    simp only [List.mem_cons, List.not_mem_nil, or_false] at hx
    rcases hx with rfl | rfl | rfl
    · exact hr
    · exact hz
    · exact st_name u)
  unfold memV
  rw [hp]
  cases u <;> rfl
theorem under_of {kk : ByteArray} {r : reg.Rg} (h : underP sNode ⟨kk, r⟩ = true) : 5 ≤ kk.size ∧ (kk.extract 0 5).toList = [110, 111, 100, 101, 47] := by
  refine ⟨under_five h, ?_⟩
  unfold underP Lib.hasPrefix at h
  obtain ⟨t, ht⟩ := List.isPrefixOf_iff_prefix.1 h
  have ht : [110, 111, 100, 101, 47] ++ t = kk.data.toList := ht
  rw [Lib.toList_data, ByteArray.data_extract, Array.toList_extract, ← ht]
  rfl
theorem under_not {kk : ByteArray} {r : reg.Rg} (h : ((kk.extract 0 5).toList == [110, 111, 100, 101, 47]) = false) : underP sNode ⟨kk, r⟩ = false := by
  cases hu : underP sNode ⟨kk, r⟩ with
  | false => rfl
  | true => rw [(under_of hu).2] at h; exact absurd h (by decide)
theorem under_low {kk : ByteArray} {r : reg.Rg} (h : ¬ 5 ≤ kk.size) : underP sNode ⟨kk, r⟩ = false := by
  cases hu : underP sNode ⟨kk, r⟩ with
  | false => rfl
  | true => exact absurd (under_of hu).1 h
theorem mems_more {xs : List En} {x : En} (h : underP sNode x = false) : mems ([] ++ xs ++ [x]) = mems xs := by
  unfold mems
  simp [List.filter_append, h]
theorem blk_cells {w : World} {g : Nat} {t : TypeId} {l : List Value} (h : Blk w g t l.toArray) : ∀ j u, l[j]? = some u → w.cell? ⟨g, j, none⟩ = some u := fun j u hu => by
  rw [h.cell, ← hu]; simp
theorem valR_no {r z : ByteArray} {u : Bool} (h : (isName r.data.toList && isName z.data.toList) = false) : valR r z u = .returned (.tuple #[.string ⟨#[]⟩, .int .i64 1]) := by unfold valR; rw [h]; rfl
theorem valR_yes {r z : ByteArray} {u : Bool} (h : (isName r.data.toList && isName z.data.toList) = true) : valR r z u = .returned (.tuple #[.string (valueV r z u), .int .i64 0]) := by unfold valR; rw [h]; rfl
section
variable {P : Program} (w : World) {α : Type} {f : α → List Value}
theorem step_append_rows {ops : Array Oper} {o : Oper} {a : Act} {K : Act → World → Prop} {Q : Exit → Act → World → Prop} {E : Prop} (hgd : o.guard = none) (s x : Operand) (t : TypeId)
    (ho : o.op = .call { callee := .builtin .append, args := #[s, x], argTypes := #[t, t] })
    (base : Nat) (e : TypeId) (i : TypeInfo) (z : Value) (size bytes : Nat) (ht : P.underlying t = some (.slice e)) (hi : P.info? e = some i) (hz : i.zero = some z)
    (hsize : i.size = size) (hby : i.bytes = bytes) (hzs : z.cells.size = size) (hsz : 0 < size)
    (v : Value) (xs : List α) (hs : a.eval s = v) (hown : Row w base e size f v xs)
    (B : Nat) (A : Option Addr) (c : Nat) (ys : List α) (hx : a.eval x = .slice A ys.length c) (hr : Reads w B size A ys.length (ys.flatMap f)) (h1 : ∀ y ∈ ys, ∀ u ∈ f y, u.oneCell' = true)
    (h63 : xs.length + ys.length ≤ maxLen) (hbytes : (xs.length + ys.length) * bytes ≤ 140737488355328) (hbase : base ≤ w.heap.size)
    (h : ∀ v' w', Row w' base e size f v' (xs ++ ys) → w.grownBy w' v.ownBlock → K (a.put o.dst v') w') : if Region.wanted o (yielded ops a.tmps) = true then Oper.wp P o a w K Q else E := by
  refine step_append_any w hgd s x t ho base e i z size bytes ht hi hz hsize hby hzs hsz v xs.length (xs.flatMap f) hs hown B A ys.length c (ys.flatMap f) hx hr (fun u hu => ?_) h63 hbytes hbase (fun v' w' h2 h3 _ => h v' w' ?_ h3)
  · obtain ⟨y, hy, hu⟩ := List.mem_flatMap.1 hu
    exact h1 y hy u hu
  · unfold Row
    rw [List.length_append, List.flatMap_append]
    exact h2
end
set_option maxRecDepth 100000 in
set_option maxHeartbeats 16000000 in
theorem back_walk (W : World) (A : Option Addr) (ca : Nat) (xs : List En) (mn mr mz : ByteArray) (mu : Bool) (kk : ByteArray) (n : Int) (b v : ByteArray) (HLt : Hid (Lets W)) (hl : xs.length ≤ maxLen) (h1 : Reads W W.heap.size 4 A xs.length (xs.flatMap En.cells)) (hz : ∀ r ∈ xs, r.sz) (hm : (Mb.mk mn mr mz mu).sz) (hx : (En.mk kk ⟨n, b, v⟩).sz) :
    Calls Tryd.prog 5 #[.slice A xs.length ca, .agg #[.string mn, .string mr, .string mz, .bool mu], .agg #[.string kk, .int .i64 n, .string b, .string v]] W fun e w' => e = .returned (.bool true) ∧ Below W.heap.size W w' := by
  obtain ⟨i0, hi0, hz0, hz1, hz2⟩ := info_parts rgy.infoE
  have HS := Lib.hid hz
  have HL1 := Lib.hid hl
  have HMZ := Lib.hid hm
  have HXZ := Lib.hid hx
  have HL := Lib.hid (below_lit2 W (.cells #[.string mn, .string mr, .string mz, .bool mu] 26) (.cells #[.string kk, .int .i64 n, .string b, .string v] 46))
  have HB := Lib.hid ((Blk.new W 26 #[.string mn, .string mr, .string mz, .bool mu]).alloc (.cells #[.string kk, .int .i64 n, .string b, .string v] 46))
  have HX := Lib.hid (Blk.new (W.alloc (.cells #[.string mn, .string mr, .string mz, .bool mu] 26)) 46 #[.string kk, .int .i64 n, .string b, .string v])
  rw [World.size_alloc] at HX
  have H1 := Lib.hid (h1.more_below HL.out)
  clear h1 hz hl hm hx
  go_enter Tryd.func5, Tryd.ntmps5
  go_wp2_with fail
  generalize (W.alloc (.cells #[.string mn, .string mr, .string mz, .bool mu] 26)).alloc (.cells #[.string kk, .int .i64 n, .string b, .string v] 46) = w0 at *
  generalize W.heap.size + 1 = gx at *
  refine (rgy.rfew_any w0 A ca xs 30 (by omega) HL1.out H1.out HS.out).mono ?_
  rintro e w1 ⟨b1, rfl, hb, hf1⟩
  replace HB := Lib.hid (Blk.below (Hid.out HB) hb (Hid.out HB).lt)
  replace HX := Lib.hid (Blk.below (Hid.out HX) hb (Hid.out HX).lt)
  replace H1 := Lib.hid ((Hid.out H1).more_below hb)
  replace HL := Lib.hid ((Hid.out HL).trans (hb.mono (Hid.out HL).size))
  clear hb
  cases b1 with
  | false =>
    clear hf1
    go_wp2_with fail
    refine (awake_any _ (Lib.hid (HLt.out.next HL.out))).mono ?_; rintro e w9 ⟨rfl, hb⟩; replace HL := Lib.hid (HL.out.trans (hb.mono HL.out.size)); clear hb; go_wp2; go_ret; exact ⟨rfl, HL.out⟩
  | true =>
    obtain ⟨hx30, hfe⟩ := hf1 rfl
    have hsh := Lib.hid (short_of hfe)
    clear hf1 hfe
    have b0 : w1.cell? ⟨W.heap.size, 0, none⟩ = some (.string mn) := HB.out.cell 0
    have b1 : w1.cell? ⟨W.heap.size, 1, none⟩ = some (.string mr) := HB.out.cell 1
    have b2 : w1.cell? ⟨W.heap.size, 2, none⟩ = some (.string mz) := HB.out.cell 2
    have b3 : w1.cell? ⟨W.heap.size, 3, none⟩ = some (.bool mu) := HB.out.cell 3
    have HR : Hid (Reads (w1.alloc (.cells #[.string mn, .string mr, .string mz, .bool mu] 26)) (w1.alloc (.cells #[.string mn, .string mr, .string mz, .bool mu] 26)).heap.size 4 (some ⟨w1.heap.size, 0, none⟩) [(⟨mn, mr, mz, mu⟩ : Mb)].length ([(⟨mn, mr, mz, mu⟩ : Mb)].flatMap Mb.cells)) := lit1 (f := Mb.cells) (size := 4) w1 26 [⟨mn, mr, mz, mu⟩] (fun _ => rfl)
    have hb := below_lit w1 (.cells #[.string mn, .string mr, .string mz, .bool mu] 26)
    replace HB := Lib.hid (Blk.below (Hid.out HB) hb (Hid.out HB).lt)
    replace HX := Lib.hid (Blk.below (Hid.out HX) hb (Hid.out HX).lt)
    replace H1 := Lib.hid ((Hid.out H1).more_below hb)
    replace HL := Lib.hid ((Hid.out HL).trans (hb.mono (Hid.out HL).size))
    clear hb
    go_wp2_with fail
    clear b0 b1 b2 b3
    generalize w1.alloc (.cells #[.string mn, .string mr, .string mz, .bool mu] 26) = w2 at *
    refine (rfew_any w2 (some ⟨w1.heap.size, 0, none⟩) 1 [⟨mn, mr, mz, mu⟩] 1 (by omega) (by simp [maxLen]) HR.out (fun r hr => by rw [List.mem_singleton.1 hr]; exact HMZ.out)).mono ?_
    rintro e w3 ⟨b2, rfl, hb, hf2⟩
    replace HB := Lib.hid (Blk.below (Hid.out HB) hb (Hid.out HB).lt)
    replace HX := Lib.hid (Blk.below (Hid.out HX) hb (Hid.out HX).lt)
    replace H1 := Lib.hid ((Hid.out H1).more_below hb)
    replace HL := Lib.hid ((Hid.out HL).trans (hb.mono (Hid.out HL).size))
    clear hb
    cases b2 with
    | false =>
      clear hf2
      go_wp2_with fail
      refine (awake_any _ (Lib.hid (HLt.out.next HL.out))).mono ?_; rintro e w9 ⟨rfl, hb⟩; replace HL := Lib.hid (HL.out.trans (hb.mono HL.out.size)); clear hb; go_wp2; go_ret; exact ⟨rfl, HL.out⟩
    | true =>
      obtain ⟨hm0, hm1, hm2⟩ : (Mb.mk mn mr mz mu).few := (hf2 rfl).2 _ (by simp)
      simp only at hm0 hm1 hm2
      clear hf2 HR
      have x0 : w3.cell? ⟨gx, 0, none⟩ = some (.string kk) := HX.out.cell 0
      have x1 : w3.cell? ⟨gx, 1, none⟩ = some (.int .i64 n) := HX.out.cell 1
      have x2 : w3.cell? ⟨gx, 2, none⟩ = some (.string b) := HX.out.cell 2
      have x3 : w3.cell? ⟨gx, 3, none⟩ = some (.string v) := HX.out.cell 3
      have HR : Hid (Reads (w3.alloc (.cells #[.string kk, .int .i64 n, .string b, .string v] 46)) (w3.alloc (.cells #[.string kk, .int .i64 n, .string b, .string v] 46)).heap.size 4 (some ⟨w3.heap.size, 0, none⟩) [(⟨kk, n, b, v⟩ : En)].length ([(⟨kk, n, b, v⟩ : En)].flatMap En.cells)) := lit1 (f := En.cells) (size := 4) w3 46 [⟨kk, n, b, v⟩] (fun _ => rfl)
      have hb := below_lit w3 (.cells #[.string kk, .int .i64 n, .string b, .string v] 46)
      replace HB := Lib.hid (Blk.below (Hid.out HB) hb (Hid.out HB).lt)
      replace HX := Lib.hid (Blk.below (Hid.out HX) hb (Hid.out HX).lt)
      replace H1 := Lib.hid ((Hid.out H1).more_below hb)
      replace HL := Lib.hid ((Hid.out HL).trans (hb.mono (Hid.out HL).size))
      clear hb
      go_wp2_with fail
      clear x0 x1 x2 x3
      generalize w3.alloc (.cells #[.string kk, .int .i64 n, .string b, .string v] 46) = w4 at *
      refine (rgy.rfew_any w4 (some ⟨w3.heap.size, 0, none⟩) 1 [⟨kk, n, b, v⟩] 1 (by omega) (by simp [maxLen]) HR.out (fun r hr => by rw [List.mem_singleton.1 hr]; exact HXZ.out)).mono ?_
      rintro e w5 ⟨b3, rfl, hb, hf3⟩
      replace HB := Lib.hid (Blk.below (Hid.out HB) hb (Hid.out HB).lt)
      replace HX := Lib.hid (Blk.below (Hid.out HX) hb (Hid.out HX).lt)
      replace H1 := Lib.hid ((Hid.out H1).more_below hb)
      replace HL := Lib.hid ((Hid.out HL).trans (hb.mono (Hid.out HL).size))
      clear hb
      cases b3 with
      | false =>
        clear hf3
        go_wp2_with fail
        refine (awake_any _ (Lib.hid (HLt.out.next HL.out))).mono ?_; rintro e w9 ⟨rfl, hb⟩; replace HL := Lib.hid (HL.out.trans (hb.mono HL.out.size)); clear hb; go_wp2; go_ret; exact ⟨rfl, HL.out⟩
      | true =>
        have hshx := short_of (hf3 rfl).2 ⟨kk, n, b, v⟩ (by simp)
        obtain ⟨zs, hZ⟩ : ∃ zs, [] ++ xs ++ [(⟨kk, n, b, v⟩ : En)] = zs := ⟨_, rfl⟩
        have hzm : underP sNode ⟨kk, n, b, v⟩ = false → mems zs = mems xs := fun h => by rw [← hZ]; exact mems_more h
        have hzl : zs.length ≤ 100000 := by rw [← hZ]; simp; omega
        have hzs : ∀ r ∈ zs, r.sz := fun r hr => by
          rw [← hZ] at hr
          rcases List.mem_append.1 hr with h | h
          · exact HS.out r (by simpa using h)
          · rw [List.mem_singleton.1 h]; exact HXZ.out
        have hzs2 : ∀ r ∈ zs, r.key.size ≤ 1000000 ∧ r.reg.value.size ≤ 1000000 := fun r hr => by
          rw [← hZ] at hr
          rcases List.mem_append.1 hr with h | h
          · exact hsh.out r (by simpa using h)
          · rw [List.mem_singleton.1 h]; exact hshx
        clear hf3 HR hshx
        replace hzl := Lib.hid hzl
        replace hZ := Lib.hid hZ
        replace hzm := Lib.hid hzm
        replace hzs := Lib.hid hzs
        replace hzs2 := Lib.hid hzs2
        have HV1 := Lib.hid (fun w => value_any mn mr mz mu w (by omega) (by omega))
        have b0 : w5.cell? ⟨W.heap.size, 0, none⟩ = some (.string mn) := HB.out.cell 0
        have b1 : w5.cell? ⟨W.heap.size, 1, none⟩ = some (.string mr) := HB.out.cell 1
        have b2 : w5.cell? ⟨W.heap.size, 2, none⟩ = some (.string mz) := HB.out.cell 2
        have b3 : w5.cell? ⟨W.heap.size, 3, none⟩ = some (.bool mu) := HB.out.cell 3
        go_wp2_with fail
        clear b0 b1 b2 b3
        refine (HV1.out w5).mono ?_
        rintro e wt ⟨rfl, hb⟩
        replace HB := Lib.hid (Blk.below (Hid.out HB) hb (Hid.out HB).lt)
        replace HX := Lib.hid (Blk.below (Hid.out HX) hb (Hid.out HX).lt)
        replace H1 := Lib.hid ((Hid.out H1).more_below hb)
        replace HL := Lib.hid ((Hid.out HL).trans (hb.mono (Hid.out HL).size))
        clear hb
        clear HV1
        cases hn : (isName mr.data.toList && isName mz.data.toList) with
        | false =>
          rw [valR_no hn]
          clear hn
          have x0 : wt.cell? ⟨gx, 0, none⟩ = some (.string kk) := HX.out.cell 0
          by_cases z5 : 5 ≤ kk.size
          · have z5i : (5 : Int) ≤ (kk.size : Int) := by omega
            cases hpre : ((kk.extract 0 5).toList == [110, 111, 100, 101, 47]) with
            | true =>
              go_wp2_with fail
              refine (awake_any _ (Lib.hid (HLt.out.next HL.out))).mono ?_; rintro e w9 ⟨rfl, hb⟩; replace HL := Lib.hid (HL.out.trans (hb.mono HL.out.size)); clear hb; go_wp2; go_ret; exact ⟨rfl, HL.out⟩
            | false =>
              have hun := under_not hpre (r := ⟨n, b, v⟩)
              have hzz := hZ
              have HM1 := Lib.hid (fun w h hL => members_any w A ca xs (by omega) h HS.out hsh.out hL)
              have HM2 : Hid (∀ (w : World) (A : Option Addr) (c : Nat), Reads w w.heap.size 4 A zs.length (zs.flatMap En.cells) → Hid (Lets w) → Calls Tryd.prog 11 #[.slice A zs.length c] w (RowM w (mems xs))) := fun w A c h hL => by
                have := members_any w A c zs hzl.out h hzs.out hzs2.out hL
                rwa [hzm.out (hun)] at this
              have hml := mems_len xs
              generalize mems xs = ms at *
              clear HS hsh hzs hzs2 hzm hZ
              go_wp2_with fail
              clear x0 hpre hun
              skip
              have hgxl := HX.out.lt
              have test := Kn.drew_4 (Kn.of_4 (Kn.new_4 (w0 := wt) (M := wt.heap.size) (p0 := ⟨gx, 0, none⟩) (p1 := ⟨gx, 1, none⟩) (p2 := ⟨gx, 2, none⟩) (p3 := ⟨gx, 3, none⟩) (v0 := .string kk) (v1 := .int .i64 n) (v2 := .string b) (v3 := .string v) (Nat.le_refl _) (HX.out.cell 0) hgxl (HX.out.cell 1) hgxl (HX.out.cell 2) hgxl (HX.out.cell 3) hgxl)).2.2.2.2
              refine wp_region_held_drew (S := (fun w' => w'.cell? ⟨gx, 0, none⟩ = some (.string kk) ∧ w'.cell? ⟨gx, 1, none⟩ = some (.int .i64 n) ∧ w'.cell? ⟨gx, 2, none⟩ = some (.string b) ∧ w'.cell? ⟨gx, 3, none⟩ = some (.string v) ∧ Hid (Kn wt.heap.size wt [(⟨gx, 0, none⟩, .string kk), (⟨gx, 1, none⟩, .int .i64 n), (⟨gx, 2, none⟩, .string b), (⟨gx, 3, none⟩, .string v)] w'))) (by kernel_rfl) ?_ (fun hHeldap0 => ?_)
              · exact test
              refine wpAnyH_take (i := 1) (v := ?vap1) (opsS ops0) (by kernel_rfl) (by kernel_rfl) (by kernel_rfl) (fun _ _ _ h => h) (Or.inl ⟨by rfl, ?yap1⟩) hHeldap0 ?_
              case yap1 => (intro w hSw; (try dsimp only at hSw); go_simp; try (with_reducible rfl))
              try simp only [Act.put, List.setIfInBounds_toArray, List.set_cons_zero, List.set_cons_succ]
              refine wpAnyH_take (i := 3) (v := ?vap3) (opsS (opsS (opsS ops0))) (by kernel_rfl) (by kernel_rfl) (by kernel_rfl) (fun _ _ _ h => h) (Or.inl ⟨by rfl, ?yap3⟩) hHeldap0 ?_
              case yap3 => (intro w hSw; (try dsimp only at hSw); go_simp; try (with_reducible rfl))
              try simp only [Act.put, List.setIfInBounds_toArray, List.set_cons_zero, List.set_cons_succ]
              refine wpAnyH_ready (rs := [0, 4]) (by kernel_rfl) (by simp) ?_
              refine AllReadyH.cons ops0 (fun K hK => ?_) ?_
              · go_simp
                have hB0 : Blk (wt.drew.alloc (.cells #[] 46)) wt.heap.size 46 #[] := Blk.new wt.drew 46 #[]
                have hr : Hid (Row (wt.drew.alloc (.cells #[] 46)) wt.heap.size 46 4 En.cells (.slice (some ⟨wt.heap.size, 0, none⟩) 0 0) []) := RowN.of (xs := ([] : List En)) (f := En.cells) (size := 4) En.len (Nat.le_refl _) (Nat.le_refl _) (by decide) hB0 rfl rfl
                clear hB0
                try dsimp only
                refine hK.out _ _ ?_ (fun hHeldap1 => ?_)
                · exact Kn.alloc_4 hHeldap0.2.2.2.2 _
                clear hK K hHeldap0
                try clear hb
                try simp only [Act.put, List.setIfInBounds_toArray, List.set_cons_zero, List.set_cons_succ]
                refine wpAnyH_ready (rs := [2, 4]) (by kernel_rfl) (by simp) ?_
                refine AllReadyH.cons (opsS (opsS ops0)) (fun K hK => ?_) ?_
                · skip
                  refine step_append_rows _ rfl _ _ 22 rfl wt.heap.size 46 i0 _ 4 56 Tryd.underlying22 hi0 hz0 hz1 hz2 rfl (by decide) (.slice (some ⟨wt.heap.size, 0, none⟩) 0 0) [] rfl hr.out _ _ _ xs rfl (H1.out.below hHeldap1.2.2.2.2.out.low) (fun y _ => rgy.one_E y) (by unfold maxLen; simp; omega) (by simp; omega) (hHeldap1.2.2.2.2.out.low.size) ?_
                  intro v1 w1 hrow1 hgrow1
                  have hl1 := low_grown hHeldap1.2.2.2.2.out.low (Nat.le_refl _) (hHeldap1.2.2.2.2.out.low.size) hr.out hgrow1
                  have hr := Lib.hid hrow1
                  clear hgrow1 hrow1
                  try dsimp only
                  refine hK.out _ _ ?_ (fun hHeldap2 => ?_)
                  · exact Kn.far_4 hHeldap1.2.2.2.2 hl1
                  clear hK K hHeldap1
                  try clear hb
                  try simp only [Act.put, List.setIfInBounds_toArray, List.set_cons_zero, List.set_cons_succ]
                  refine wpAnyH_ready (rs := [4]) (by kernel_rfl) (by simp) ?_
                  refine AllReadyH.cons (opsS (opsS (opsS (opsS ops0)))) (fun K hK => ?_) ?_
                  · go_simp
                    have HX2 := Lib.hid (Blk.new w1 46 #[.string kk, .int .i64 n, .string b, .string v])
                    replace hr := Lib.hid (hr.out.alloc (.cells #[.string kk, .int .i64 n, .string b, .string v] 46))
                    try dsimp only
                    refine hK.out _ _ ?_ (fun hHeldap3 => ?_)
                    · exact Kn.alloc_4 hHeldap2.2.2.2.2 _
                    clear hK K hHeldap2
                    try clear hb
                    try simp only [Act.put, List.setIfInBounds_toArray, List.set_cons_zero, List.set_cons_succ]
                    refine wpAnyH_ready (rs := [5]) (by kernel_rfl) (by simp) ?_
                    refine AllReadyH.cons (opsS (opsS (opsS (opsS (opsS ops0))))) (fun K hK => ?_) ?_
                    · skip
                      refine step_append_row _ rfl _ _ 22 rfl wt.heap.size 46 i0 _ 4 56 Tryd.underlying22 hi0 hz0 hz1 hz2 rfl (by decide) _ _ rfl hr.out En.len _ ⟨kk, n, b, v⟩ rfl (blk_cells (l := En.cells ⟨kk, n, b, v⟩) HX2.out) (rgy.one_E _) HX2.out.lt (by unfold maxLen; simp; omega) (by simp; omega) (hHeldap3.2.2.2.2.out.low.size) ?_
                      intro v2 w2 hrow2 hgrow2
                      have hl2 := low_grown hHeldap3.2.2.2.2.out.low (Nat.le_refl _) (hHeldap3.2.2.2.2.out.low.size) hr.out hgrow2
                      rw [hzz.out] at hrow2
                      have hr2 := Lib.hid hrow2
                      clear hgrow2 hrow2 hr HX2
                      try dsimp only
                      refine hK.out _ _ ?_ (fun hHeldap4 => ?_)
                      · exact Kn.far_4 hHeldap3.2.2.2.2 hl2
                      clear hK K hHeldap3
                      try clear hb
                      try simp only [Act.put, List.setIfInBounds_toArray, List.set_cons_zero, List.set_cons_succ]
                      refine wpAnyH_take (i := 6) (v := ?vapx0x2x4x5i6) (opsS (opsS (opsS (opsS (opsS (opsS ops0)))))) (by kernel_rfl) (by kernel_rfl) (by kernel_rfl) (fun _ _ _ h => h) (Or.inl ⟨by rfl, ?yapx0x2x4x5i6⟩) hHeldap4 ?_
                      case yapx0x2x4x5i6 => (intro w hSw; (try dsimp only at hSw); go_simp; try (with_reducible rfl))
                      try simp only [Act.put, List.setIfInBounds_toArray, List.set_cons_zero, List.set_cons_succ]
                      refine wpAnyH_done (by kernel_rfl) ?_ _
                      clear hHeldap4
                      have hlt2 := Lib.hid hl2
                      clear hl2
                      replace HL := Lib.hid (HL.out.trans (hlt2.out.mono HL.out.size))
                      replace H1 := Lib.hid (H1.out.more_below hlt2.out)
                      obtain ⟨A9, c9, rfl, hR9⟩ := hr2.out.reads
                      have H9 := Lib.hid hR9
                      clear hR9 hr2 hlt2
                      go_wp2_with fail
                      refine (HM2.out w2 A9 c9 H9.out (Lib.hid (HLt.out.next HL.out))).mono ?_
                      rintro e w3 ⟨v3, rfl, hrow, hb⟩
                      obtain ⟨A3, c3, rfl, hR3⟩ := hrow.reads
                      have H3 := Lib.hid hR3
                      clear hrow hR3
                      replace H1 := Lib.hid (H1.out.more_below hb)
                      replace HL := Lib.hid (HL.out.trans (hb.mono HL.out.size))
                      clear hb
                      go_wp2_with fail
                      refine (HM1.out w3 H1.out (Lib.hid (HLt.out.next HL.out))).mono ?_
                      rintro e w4 ⟨v4, rfl, hrow, hb⟩
                      obtain ⟨A4, c4, rfl, hR4⟩ := hrow.reads
                      have H4 := Lib.hid hR4
                      clear hrow hR4
                      replace H1 := Lib.hid (H1.out.more_below hb)
                      replace H3 := Lib.hid (H3.out.more_below hb)
                      replace HL := Lib.hid (HL.out.trans (hb.mono HL.out.size))
                      clear hb
                      go_wp2_with fail
                      refine (rsame_any w4 A3 A4 c3 c4 ms ms (by omega) (by omega) H3.out H4.out).mono ?_
                      rw [show decide (ms = ms) = true by simp]
                      rintro e w5 ⟨rfl, hb⟩
                      replace H1 := Lib.hid (H1.out.more_below hb)
                      replace HL := Lib.hid (HL.out.trans (hb.mono HL.out.size))
                      clear hb
                      go_wp2_with fail
                      refine (awake_any _ (Lib.hid (HLt.out.next HL.out))).mono ?_
                      rintro e w9 ⟨rfl, hb⟩
                      replace HL := Lib.hid (HL.out.trans (hb.mono HL.out.size))
                      clear hb
                      go_wp2
                      go_ret
                      exact ⟨rfl, HL.out⟩
                    exact AllReadyH.nil
                  exact AllReadyH.nil
                refine AllReadyH.cons (opsS (opsS (opsS (opsS ops0)))) (fun K hK => ?_) ?_
                · go_simp
                  have HX2 := Blk.new (wt.drew.alloc (.cells #[] 46)) 46 #[.string kk, .int .i64 n, .string b, .string v]
                  rw [show (wt.drew.alloc (.cells #[] 46)).heap.size = wt.heap.size + 1 by simp] at HX2
                  replace HX2 := Lib.hid HX2
                  replace hr := Lib.hid (hr.out.alloc (.cells #[.string kk, .int .i64 n, .string b, .string v] 46))
                  try dsimp only
                  refine hK.out _ _ ?_ (fun hHeldap2 => ?_)
                  · exact Kn.alloc_4 hHeldap1.2.2.2.2 _
                  clear hK K hHeldap1
                  try clear hb
                  try simp only [Act.put, List.setIfInBounds_toArray, List.set_cons_zero, List.set_cons_succ]
                  refine wpAnyH_ready (rs := [2]) (by kernel_rfl) (by simp) ?_
                  refine AllReadyH.cons (opsS (opsS ops0)) (fun K hK => ?_) ?_
                  · skip
                    refine step_append_rows _ rfl _ _ 22 rfl wt.heap.size 46 i0 _ 4 56 Tryd.underlying22 hi0 hz0 hz1 hz2 rfl (by decide) (.slice (some ⟨wt.heap.size, 0, none⟩) 0 0) [] rfl hr.out _ _ _ xs rfl (H1.out.below hHeldap2.2.2.2.2.out.low) (fun y _ => rgy.one_E y) (by unfold maxLen; simp; omega) (by simp; omega) (hHeldap2.2.2.2.2.out.low.size) ?_
                    intro v1 w1 hrow1 hgrow1
                    have hl1 := low_grown hHeldap2.2.2.2.2.out.low (Nat.le_refl _) (hHeldap2.2.2.2.2.out.low.size) hr.out hgrow1
                    replace HX2 := Lib.hid (HX2.out.grown hgrow1 (by simp [Value.ownBlock]))
                    have hr := Lib.hid hrow1
                    clear hgrow1 hrow1
                    try dsimp only
                    refine hK.out _ _ ?_ (fun hHeldap3 => ?_)
                    · exact Kn.far_4 hHeldap2.2.2.2.2 hl1
                    clear hK K hHeldap2
                    try clear hb
                    try simp only [Act.put, List.setIfInBounds_toArray, List.set_cons_zero, List.set_cons_succ]
                    refine wpAnyH_ready (rs := [5]) (by kernel_rfl) (by simp) ?_
                    refine AllReadyH.cons (opsS (opsS (opsS (opsS (opsS ops0))))) (fun K hK => ?_) ?_
                    · skip
                      refine step_append_row _ rfl _ _ 22 rfl wt.heap.size 46 i0 _ 4 56 Tryd.underlying22 hi0 hz0 hz1 hz2 rfl (by decide) _ _ rfl hr.out En.len _ ⟨kk, n, b, v⟩ rfl (blk_cells (l := En.cells ⟨kk, n, b, v⟩) HX2.out) (rgy.one_E _) HX2.out.lt (by unfold maxLen; simp; omega) (by simp; omega) (hHeldap3.2.2.2.2.out.low.size) ?_
                      intro v2 w2 hrow2 hgrow2
                      have hl2 := low_grown hHeldap3.2.2.2.2.out.low (Nat.le_refl _) (hHeldap3.2.2.2.2.out.low.size) hr.out hgrow2
                      rw [hzz.out] at hrow2
                      have hr2 := Lib.hid hrow2
                      clear hgrow2 hrow2 hr HX2
                      try dsimp only
                      refine hK.out _ _ ?_ (fun hHeldap4 => ?_)
                      · exact Kn.far_4 hHeldap3.2.2.2.2 hl2
                      clear hK K hHeldap3
                      try clear hb
                      try simp only [Act.put, List.setIfInBounds_toArray, List.set_cons_zero, List.set_cons_succ]
                      refine wpAnyH_take (i := 6) (v := ?vapx0x4x2x5i6) (opsS (opsS (opsS (opsS (opsS (opsS ops0)))))) (by kernel_rfl) (by kernel_rfl) (by kernel_rfl) (fun _ _ _ h => h) (Or.inl ⟨by rfl, ?yapx0x4x2x5i6⟩) hHeldap4 ?_
                      case yapx0x4x2x5i6 => (intro w hSw; (try dsimp only at hSw); go_simp; try (with_reducible rfl))
                      try simp only [Act.put, List.setIfInBounds_toArray, List.set_cons_zero, List.set_cons_succ]
                      refine wpAnyH_done (by kernel_rfl) ?_ _
                      clear hHeldap4
                      have hlt2 := Lib.hid hl2
                      clear hl2
                      replace HL := Lib.hid (HL.out.trans (hlt2.out.mono HL.out.size))
                      replace H1 := Lib.hid (H1.out.more_below hlt2.out)
                      obtain ⟨A9, c9, rfl, hR9⟩ := hr2.out.reads
                      have H9 := Lib.hid hR9
                      clear hR9 hr2 hlt2
                      go_wp2_with fail
                      refine (HM2.out w2 A9 c9 H9.out (Lib.hid (HLt.out.next HL.out))).mono ?_
                      rintro e w3 ⟨v3, rfl, hrow, hb⟩
                      obtain ⟨A3, c3, rfl, hR3⟩ := hrow.reads
                      have H3 := Lib.hid hR3
                      clear hrow hR3
                      replace H1 := Lib.hid (H1.out.more_below hb)
                      replace HL := Lib.hid (HL.out.trans (hb.mono HL.out.size))
                      clear hb
                      go_wp2_with fail
                      refine (HM1.out w3 H1.out (Lib.hid (HLt.out.next HL.out))).mono ?_
                      rintro e w4 ⟨v4, rfl, hrow, hb⟩
                      obtain ⟨A4, c4, rfl, hR4⟩ := hrow.reads
                      have H4 := Lib.hid hR4
                      clear hrow hR4
                      replace H1 := Lib.hid (H1.out.more_below hb)
                      replace H3 := Lib.hid (H3.out.more_below hb)
                      replace HL := Lib.hid (HL.out.trans (hb.mono HL.out.size))
                      clear hb
                      go_wp2_with fail
                      refine (rsame_any w4 A3 A4 c3 c4 ms ms (by omega) (by omega) H3.out H4.out).mono ?_
                      rw [show decide (ms = ms) = true by simp]
                      rintro e w5 ⟨rfl, hb⟩
                      replace H1 := Lib.hid (H1.out.more_below hb)
                      replace HL := Lib.hid (HL.out.trans (hb.mono HL.out.size))
                      clear hb
                      go_wp2_with fail
                      refine (awake_any _ (Lib.hid (HLt.out.next HL.out))).mono ?_
                      rintro e w9 ⟨rfl, hb⟩
                      replace HL := Lib.hid (HL.out.trans (hb.mono HL.out.size))
                      clear hb
                      go_wp2
                      go_ret
                      exact ⟨rfl, HL.out⟩
                    exact AllReadyH.nil
                  exact AllReadyH.nil
                exact AllReadyH.nil
              refine AllReadyH.cons (opsS (opsS (opsS (opsS ops0)))) (fun K hK => ?_) ?_
              · go_simp
                have HX2 : Hid (Blk (wt.drew.alloc (.cells #[.string kk, .int .i64 n, .string b, .string v] 46)) wt.heap.size 46 #[.string kk, .int .i64 n, .string b, .string v]) := Blk.new wt.drew 46 #[.string kk, .int .i64 n, .string b, .string v]
                try dsimp only
                refine hK.out _ _ ?_ (fun hHeldap1 => ?_)
                · exact Kn.alloc_4 hHeldap0.2.2.2.2 _
                clear hK K hHeldap0
                try clear hb
                try simp only [Act.put, List.setIfInBounds_toArray, List.set_cons_zero, List.set_cons_succ]
                refine wpAnyH_ready (rs := [0]) (by kernel_rfl) (by simp) ?_
                refine AllReadyH.cons ops0 (fun K hK => ?_) ?_
                · go_simp
                  have hB0 := Blk.new (wt.drew.alloc (.cells #[.string kk, .int .i64 n, .string b, .string v] 46)) 46 #[]
                  rw [show (wt.drew.alloc (.cells #[.string kk, .int .i64 n, .string b, .string v] 46)).heap.size = wt.heap.size + 1 by simp] at hB0
                  have hr : Hid (Row ((wt.drew.alloc (.cells #[.string kk, .int .i64 n, .string b, .string v] 46)).alloc (.cells #[] 46)) wt.heap.size 46 4 En.cells (.slice (some ⟨wt.heap.size + 1, 0, none⟩) 0 0) []) := RowN.of (xs := ([] : List En)) (f := En.cells) (size := 4) En.len (Nat.le_succ _) (Nat.le_refl _) (by decide) hB0 rfl rfl
                  clear hB0
                  replace HX2 := Lib.hid (HX2.out.alloc (.cells #[] 46))
                  try dsimp only
                  refine hK.out _ _ ?_ (fun hHeldap2 => ?_)
                  · exact Kn.alloc_4 hHeldap1.2.2.2.2 _
                  clear hK K hHeldap1
                  try clear hb
                  try simp only [Act.put, List.setIfInBounds_toArray, List.set_cons_zero, List.set_cons_succ]
                  refine wpAnyH_ready (rs := [2]) (by kernel_rfl) (by simp) ?_
                  refine AllReadyH.cons (opsS (opsS ops0)) (fun K hK => ?_) ?_
                  · skip
                    refine step_append_rows _ rfl _ _ 22 rfl wt.heap.size 46 i0 _ 4 56 Tryd.underlying22 hi0 hz0 hz1 hz2 rfl (by decide) (.slice (some ⟨wt.heap.size + 1, 0, none⟩) 0 0) [] rfl hr.out _ _ _ xs rfl (H1.out.below hHeldap2.2.2.2.2.out.low) (fun y _ => rgy.one_E y) (by unfold maxLen; simp; omega) (by simp; omega) (hHeldap2.2.2.2.2.out.low.size) ?_
                    intro v1 w1 hrow1 hgrow1
                    have hl1 := low_grown hHeldap2.2.2.2.2.out.low (Nat.le_refl _) (hHeldap2.2.2.2.2.out.low.size) hr.out hgrow1
                    replace HX2 := Lib.hid (HX2.out.grown hgrow1 (by simp [Value.ownBlock]))
                    have hr := Lib.hid hrow1
                    clear hgrow1 hrow1
                    try dsimp only
                    refine hK.out _ _ ?_ (fun hHeldap3 => ?_)
                    · exact Kn.far_4 hHeldap2.2.2.2.2 hl1
                    clear hK K hHeldap2
                    try clear hb
                    try simp only [Act.put, List.setIfInBounds_toArray, List.set_cons_zero, List.set_cons_succ]
                    refine wpAnyH_ready (rs := [5]) (by kernel_rfl) (by simp) ?_
                    refine AllReadyH.cons (opsS (opsS (opsS (opsS (opsS ops0))))) (fun K hK => ?_) ?_
                    · skip
                      refine step_append_row _ rfl _ _ 22 rfl wt.heap.size 46 i0 _ 4 56 Tryd.underlying22 hi0 hz0 hz1 hz2 rfl (by decide) _ _ rfl hr.out En.len _ ⟨kk, n, b, v⟩ rfl (blk_cells (l := En.cells ⟨kk, n, b, v⟩) HX2.out) (rgy.one_E _) HX2.out.lt (by unfold maxLen; simp; omega) (by simp; omega) (hHeldap3.2.2.2.2.out.low.size) ?_
                      intro v2 w2 hrow2 hgrow2
                      have hl2 := low_grown hHeldap3.2.2.2.2.out.low (Nat.le_refl _) (hHeldap3.2.2.2.2.out.low.size) hr.out hgrow2
                      rw [hzz.out] at hrow2
                      have hr2 := Lib.hid hrow2
                      clear hgrow2 hrow2 hr HX2
                      try dsimp only
                      refine hK.out _ _ ?_ (fun hHeldap4 => ?_)
                      · exact Kn.far_4 hHeldap3.2.2.2.2 hl2
                      clear hK K hHeldap3
                      try clear hb
                      try simp only [Act.put, List.setIfInBounds_toArray, List.set_cons_zero, List.set_cons_succ]
                      refine wpAnyH_take (i := 6) (v := ?vapx4x0x2x5i6) (opsS (opsS (opsS (opsS (opsS (opsS ops0)))))) (by kernel_rfl) (by kernel_rfl) (by kernel_rfl) (fun _ _ _ h => h) (Or.inl ⟨by rfl, ?yapx4x0x2x5i6⟩) hHeldap4 ?_
                      case yapx4x0x2x5i6 => (intro w hSw; (try dsimp only at hSw); go_simp; try (with_reducible rfl))
                      try simp only [Act.put, List.setIfInBounds_toArray, List.set_cons_zero, List.set_cons_succ]
                      refine wpAnyH_done (by kernel_rfl) ?_ _
                      clear hHeldap4
                      have hlt2 := Lib.hid hl2
                      clear hl2
                      replace HL := Lib.hid (HL.out.trans (hlt2.out.mono HL.out.size))
                      replace H1 := Lib.hid (H1.out.more_below hlt2.out)
                      obtain ⟨A9, c9, rfl, hR9⟩ := hr2.out.reads
                      have H9 := Lib.hid hR9
                      clear hR9 hr2 hlt2
                      go_wp2_with fail
                      refine (HM2.out w2 A9 c9 H9.out (Lib.hid (HLt.out.next HL.out))).mono ?_
                      rintro e w3 ⟨v3, rfl, hrow, hb⟩
                      obtain ⟨A3, c3, rfl, hR3⟩ := hrow.reads
                      have H3 := Lib.hid hR3
                      clear hrow hR3
                      replace H1 := Lib.hid (H1.out.more_below hb)
                      replace HL := Lib.hid (HL.out.trans (hb.mono HL.out.size))
                      clear hb
                      go_wp2_with fail
                      refine (HM1.out w3 H1.out (Lib.hid (HLt.out.next HL.out))).mono ?_
                      rintro e w4 ⟨v4, rfl, hrow, hb⟩
                      obtain ⟨A4, c4, rfl, hR4⟩ := hrow.reads
                      have H4 := Lib.hid hR4
                      clear hrow hR4
                      replace H1 := Lib.hid (H1.out.more_below hb)
                      replace H3 := Lib.hid (H3.out.more_below hb)
                      replace HL := Lib.hid (HL.out.trans (hb.mono HL.out.size))
                      clear hb
                      go_wp2_with fail
                      refine (rsame_any w4 A3 A4 c3 c4 ms ms (by omega) (by omega) H3.out H4.out).mono ?_
                      rw [show decide (ms = ms) = true by simp]
                      rintro e w5 ⟨rfl, hb⟩
                      replace H1 := Lib.hid (H1.out.more_below hb)
                      replace HL := Lib.hid (HL.out.trans (hb.mono HL.out.size))
                      clear hb
                      go_wp2_with fail
                      refine (awake_any _ (Lib.hid (HLt.out.next HL.out))).mono ?_
                      rintro e w9 ⟨rfl, hb⟩
                      replace HL := Lib.hid (HL.out.trans (hb.mono HL.out.size))
                      clear hb
                      go_wp2
                      go_ret
                      exact ⟨rfl, HL.out⟩
                    exact AllReadyH.nil
                  exact AllReadyH.nil
                exact AllReadyH.nil
              exact AllReadyH.nil
          · have hun := under_low z5 (r := ⟨n, b, v⟩)
            have hzz := hZ
            have HM1 := Lib.hid (fun w h hL => members_any w A ca xs (by omega) h HS.out hsh.out hL)
            have HM2 : Hid (∀ (w : World) (A : Option Addr) (c : Nat), Reads w w.heap.size 4 A zs.length (zs.flatMap En.cells) → Hid (Lets w) → Calls Tryd.prog 11 #[.slice A zs.length c] w (RowM w (mems xs))) := fun w A c h hL => by
              have := members_any w A c zs hzl.out h hzs.out hzs2.out hL
              rwa [hzm.out (hun)] at this
            have hml := mems_len xs
            generalize mems xs = ms at *
            clear HS hsh hzs hzs2 hzm hZ
            go_wp2_with fail
            clear x0 hun
            skip
            have hgxl := HX.out.lt
            have test := Kn.drew_4 (Kn.of_4 (Kn.new_4 (w0 := wt) (M := wt.heap.size) (p0 := ⟨gx, 0, none⟩) (p1 := ⟨gx, 1, none⟩) (p2 := ⟨gx, 2, none⟩) (p3 := ⟨gx, 3, none⟩) (v0 := .string kk) (v1 := .int .i64 n) (v2 := .string b) (v3 := .string v) (Nat.le_refl _) (HX.out.cell 0) hgxl (HX.out.cell 1) hgxl (HX.out.cell 2) hgxl (HX.out.cell 3) hgxl)).2.2.2.2
            refine wp_region_held_drew (S := (fun w' => w'.cell? ⟨gx, 0, none⟩ = some (.string kk) ∧ w'.cell? ⟨gx, 1, none⟩ = some (.int .i64 n) ∧ w'.cell? ⟨gx, 2, none⟩ = some (.string b) ∧ w'.cell? ⟨gx, 3, none⟩ = some (.string v) ∧ Hid (Kn wt.heap.size wt [(⟨gx, 0, none⟩, .string kk), (⟨gx, 1, none⟩, .int .i64 n), (⟨gx, 2, none⟩, .string b), (⟨gx, 3, none⟩, .string v)] w'))) (by kernel_rfl) ?_ (fun hHeldaq0 => ?_)
            · exact test
            refine wpAnyH_take (i := 1) (v := ?vaq1) (opsS ops0) (by kernel_rfl) (by kernel_rfl) (by kernel_rfl) (fun _ _ _ h => h) (Or.inl ⟨by rfl, ?yaq1⟩) hHeldaq0 ?_
            case yaq1 => (intro w hSw; (try dsimp only at hSw); go_simp; try (with_reducible rfl))
            try simp only [Act.put, List.setIfInBounds_toArray, List.set_cons_zero, List.set_cons_succ]
            refine wpAnyH_take (i := 3) (v := ?vaq3) (opsS (opsS (opsS ops0))) (by kernel_rfl) (by kernel_rfl) (by kernel_rfl) (fun _ _ _ h => h) (Or.inl ⟨by rfl, ?yaq3⟩) hHeldaq0 ?_
            case yaq3 => (intro w hSw; (try dsimp only at hSw); go_simp; try (with_reducible rfl))
            try simp only [Act.put, List.setIfInBounds_toArray, List.set_cons_zero, List.set_cons_succ]
            refine wpAnyH_ready (rs := [0, 4]) (by kernel_rfl) (by simp) ?_
            refine AllReadyH.cons ops0 (fun K hK => ?_) ?_
            · go_simp
              have hB0 : Blk (wt.drew.alloc (.cells #[] 46)) wt.heap.size 46 #[] := Blk.new wt.drew 46 #[]
              have hr : Hid (Row (wt.drew.alloc (.cells #[] 46)) wt.heap.size 46 4 En.cells (.slice (some ⟨wt.heap.size, 0, none⟩) 0 0) []) := RowN.of (xs := ([] : List En)) (f := En.cells) (size := 4) En.len (Nat.le_refl _) (Nat.le_refl _) (by decide) hB0 rfl rfl
              clear hB0
              try dsimp only
              refine hK.out _ _ ?_ (fun hHeldaq1 => ?_)
              · exact Kn.alloc_4 hHeldaq0.2.2.2.2 _
              clear hK K hHeldaq0
              try clear hb
              try simp only [Act.put, List.setIfInBounds_toArray, List.set_cons_zero, List.set_cons_succ]
              refine wpAnyH_ready (rs := [2, 4]) (by kernel_rfl) (by simp) ?_
              refine AllReadyH.cons (opsS (opsS ops0)) (fun K hK => ?_) ?_
              · skip
                refine step_append_rows _ rfl _ _ 22 rfl wt.heap.size 46 i0 _ 4 56 Tryd.underlying22 hi0 hz0 hz1 hz2 rfl (by decide) (.slice (some ⟨wt.heap.size, 0, none⟩) 0 0) [] rfl hr.out _ _ _ xs rfl (H1.out.below hHeldaq1.2.2.2.2.out.low) (fun y _ => rgy.one_E y) (by unfold maxLen; simp; omega) (by simp; omega) (hHeldaq1.2.2.2.2.out.low.size) ?_
                intro v1 w1 hrow1 hgrow1
                have hl1 := low_grown hHeldaq1.2.2.2.2.out.low (Nat.le_refl _) (hHeldaq1.2.2.2.2.out.low.size) hr.out hgrow1
                have hr := Lib.hid hrow1
                clear hgrow1 hrow1
                try dsimp only
                refine hK.out _ _ ?_ (fun hHeldaq2 => ?_)
                · exact Kn.far_4 hHeldaq1.2.2.2.2 hl1
                clear hK K hHeldaq1
                try clear hb
                try simp only [Act.put, List.setIfInBounds_toArray, List.set_cons_zero, List.set_cons_succ]
                refine wpAnyH_ready (rs := [4]) (by kernel_rfl) (by simp) ?_
                refine AllReadyH.cons (opsS (opsS (opsS (opsS ops0)))) (fun K hK => ?_) ?_
                · go_simp
                  have HX2 := Lib.hid (Blk.new w1 46 #[.string kk, .int .i64 n, .string b, .string v])
                  replace hr := Lib.hid (hr.out.alloc (.cells #[.string kk, .int .i64 n, .string b, .string v] 46))
                  try dsimp only
                  refine hK.out _ _ ?_ (fun hHeldaq3 => ?_)
                  · exact Kn.alloc_4 hHeldaq2.2.2.2.2 _
                  clear hK K hHeldaq2
                  try clear hb
                  try simp only [Act.put, List.setIfInBounds_toArray, List.set_cons_zero, List.set_cons_succ]
                  refine wpAnyH_ready (rs := [5]) (by kernel_rfl) (by simp) ?_
                  refine AllReadyH.cons (opsS (opsS (opsS (opsS (opsS ops0))))) (fun K hK => ?_) ?_
                  · skip
                    refine step_append_row _ rfl _ _ 22 rfl wt.heap.size 46 i0 _ 4 56 Tryd.underlying22 hi0 hz0 hz1 hz2 rfl (by decide) _ _ rfl hr.out En.len _ ⟨kk, n, b, v⟩ rfl (blk_cells (l := En.cells ⟨kk, n, b, v⟩) HX2.out) (rgy.one_E _) HX2.out.lt (by unfold maxLen; simp; omega) (by simp; omega) (hHeldaq3.2.2.2.2.out.low.size) ?_
                    intro v2 w2 hrow2 hgrow2
                    have hl2 := low_grown hHeldaq3.2.2.2.2.out.low (Nat.le_refl _) (hHeldaq3.2.2.2.2.out.low.size) hr.out hgrow2
                    rw [hzz.out] at hrow2
                    have hr2 := Lib.hid hrow2
                    clear hgrow2 hrow2 hr HX2
                    try dsimp only
                    refine hK.out _ _ ?_ (fun hHeldaq4 => ?_)
                    · exact Kn.far_4 hHeldaq3.2.2.2.2 hl2
                    clear hK K hHeldaq3
                    try clear hb
                    try simp only [Act.put, List.setIfInBounds_toArray, List.set_cons_zero, List.set_cons_succ]
                    refine wpAnyH_take (i := 6) (v := ?vaqx0x2x4x5i6) (opsS (opsS (opsS (opsS (opsS (opsS ops0)))))) (by kernel_rfl) (by kernel_rfl) (by kernel_rfl) (fun _ _ _ h => h) (Or.inl ⟨by rfl, ?yaqx0x2x4x5i6⟩) hHeldaq4 ?_
                    case yaqx0x2x4x5i6 => (intro w hSw; (try dsimp only at hSw); go_simp; try (with_reducible rfl))
                    try simp only [Act.put, List.setIfInBounds_toArray, List.set_cons_zero, List.set_cons_succ]
                    refine wpAnyH_done (by kernel_rfl) ?_ _
                    clear hHeldaq4
                    have hlt2 := Lib.hid hl2
                    clear hl2
                    replace HL := Lib.hid (HL.out.trans (hlt2.out.mono HL.out.size))
                    replace H1 := Lib.hid (H1.out.more_below hlt2.out)
                    obtain ⟨A9, c9, rfl, hR9⟩ := hr2.out.reads
                    have H9 := Lib.hid hR9
                    clear hR9 hr2 hlt2
                    go_wp2_with fail
                    refine (HM2.out w2 A9 c9 H9.out (Lib.hid (HLt.out.next HL.out))).mono ?_
                    rintro e w3 ⟨v3, rfl, hrow, hb⟩
                    obtain ⟨A3, c3, rfl, hR3⟩ := hrow.reads
                    have H3 := Lib.hid hR3
                    clear hrow hR3
                    replace H1 := Lib.hid (H1.out.more_below hb)
                    replace HL := Lib.hid (HL.out.trans (hb.mono HL.out.size))
                    clear hb
                    go_wp2_with fail
                    refine (HM1.out w3 H1.out (Lib.hid (HLt.out.next HL.out))).mono ?_
                    rintro e w4 ⟨v4, rfl, hrow, hb⟩
                    obtain ⟨A4, c4, rfl, hR4⟩ := hrow.reads
                    have H4 := Lib.hid hR4
                    clear hrow hR4
                    replace H1 := Lib.hid (H1.out.more_below hb)
                    replace H3 := Lib.hid (H3.out.more_below hb)
                    replace HL := Lib.hid (HL.out.trans (hb.mono HL.out.size))
                    clear hb
                    go_wp2_with fail
                    refine (rsame_any w4 A3 A4 c3 c4 ms ms (by omega) (by omega) H3.out H4.out).mono ?_
                    rw [show decide (ms = ms) = true by simp]
                    rintro e w5 ⟨rfl, hb⟩
                    replace H1 := Lib.hid (H1.out.more_below hb)
                    replace HL := Lib.hid (HL.out.trans (hb.mono HL.out.size))
                    clear hb
                    go_wp2_with fail
                    refine (awake_any _ (Lib.hid (HLt.out.next HL.out))).mono ?_
                    rintro e w9 ⟨rfl, hb⟩
                    replace HL := Lib.hid (HL.out.trans (hb.mono HL.out.size))
                    clear hb
                    go_wp2
                    go_ret
                    exact ⟨rfl, HL.out⟩
                  exact AllReadyH.nil
                exact AllReadyH.nil
              refine AllReadyH.cons (opsS (opsS (opsS (opsS ops0)))) (fun K hK => ?_) ?_
              · go_simp
                have HX2 := Blk.new (wt.drew.alloc (.cells #[] 46)) 46 #[.string kk, .int .i64 n, .string b, .string v]
                rw [show (wt.drew.alloc (.cells #[] 46)).heap.size = wt.heap.size + 1 by simp] at HX2
                replace HX2 := Lib.hid HX2
                replace hr := Lib.hid (hr.out.alloc (.cells #[.string kk, .int .i64 n, .string b, .string v] 46))
                try dsimp only
                refine hK.out _ _ ?_ (fun hHeldaq2 => ?_)
                · exact Kn.alloc_4 hHeldaq1.2.2.2.2 _
                clear hK K hHeldaq1
                try clear hb
                try simp only [Act.put, List.setIfInBounds_toArray, List.set_cons_zero, List.set_cons_succ]
                refine wpAnyH_ready (rs := [2]) (by kernel_rfl) (by simp) ?_
                refine AllReadyH.cons (opsS (opsS ops0)) (fun K hK => ?_) ?_
                · skip
                  refine step_append_rows _ rfl _ _ 22 rfl wt.heap.size 46 i0 _ 4 56 Tryd.underlying22 hi0 hz0 hz1 hz2 rfl (by decide) (.slice (some ⟨wt.heap.size, 0, none⟩) 0 0) [] rfl hr.out _ _ _ xs rfl (H1.out.below hHeldaq2.2.2.2.2.out.low) (fun y _ => rgy.one_E y) (by unfold maxLen; simp; omega) (by simp; omega) (hHeldaq2.2.2.2.2.out.low.size) ?_
                  intro v1 w1 hrow1 hgrow1
                  have hl1 := low_grown hHeldaq2.2.2.2.2.out.low (Nat.le_refl _) (hHeldaq2.2.2.2.2.out.low.size) hr.out hgrow1
                  replace HX2 := Lib.hid (HX2.out.grown hgrow1 (by simp [Value.ownBlock]))
                  have hr := Lib.hid hrow1
                  clear hgrow1 hrow1
                  try dsimp only
                  refine hK.out _ _ ?_ (fun hHeldaq3 => ?_)
                  · exact Kn.far_4 hHeldaq2.2.2.2.2 hl1
                  clear hK K hHeldaq2
                  try clear hb
                  try simp only [Act.put, List.setIfInBounds_toArray, List.set_cons_zero, List.set_cons_succ]
                  refine wpAnyH_ready (rs := [5]) (by kernel_rfl) (by simp) ?_
                  refine AllReadyH.cons (opsS (opsS (opsS (opsS (opsS ops0))))) (fun K hK => ?_) ?_
                  · skip
                    refine step_append_row _ rfl _ _ 22 rfl wt.heap.size 46 i0 _ 4 56 Tryd.underlying22 hi0 hz0 hz1 hz2 rfl (by decide) _ _ rfl hr.out En.len _ ⟨kk, n, b, v⟩ rfl (blk_cells (l := En.cells ⟨kk, n, b, v⟩) HX2.out) (rgy.one_E _) HX2.out.lt (by unfold maxLen; simp; omega) (by simp; omega) (hHeldaq3.2.2.2.2.out.low.size) ?_
                    intro v2 w2 hrow2 hgrow2
                    have hl2 := low_grown hHeldaq3.2.2.2.2.out.low (Nat.le_refl _) (hHeldaq3.2.2.2.2.out.low.size) hr.out hgrow2
                    rw [hzz.out] at hrow2
                    have hr2 := Lib.hid hrow2
                    clear hgrow2 hrow2 hr HX2
                    try dsimp only
                    refine hK.out _ _ ?_ (fun hHeldaq4 => ?_)
                    · exact Kn.far_4 hHeldaq3.2.2.2.2 hl2
                    clear hK K hHeldaq3
                    try clear hb
                    try simp only [Act.put, List.setIfInBounds_toArray, List.set_cons_zero, List.set_cons_succ]
                    refine wpAnyH_take (i := 6) (v := ?vaqx0x4x2x5i6) (opsS (opsS (opsS (opsS (opsS (opsS ops0)))))) (by kernel_rfl) (by kernel_rfl) (by kernel_rfl) (fun _ _ _ h => h) (Or.inl ⟨by rfl, ?yaqx0x4x2x5i6⟩) hHeldaq4 ?_
                    case yaqx0x4x2x5i6 => (intro w hSw; (try dsimp only at hSw); go_simp; try (with_reducible rfl))
                    try simp only [Act.put, List.setIfInBounds_toArray, List.set_cons_zero, List.set_cons_succ]
                    refine wpAnyH_done (by kernel_rfl) ?_ _
                    clear hHeldaq4
                    have hlt2 := Lib.hid hl2
                    clear hl2
                    replace HL := Lib.hid (HL.out.trans (hlt2.out.mono HL.out.size))
                    replace H1 := Lib.hid (H1.out.more_below hlt2.out)
                    obtain ⟨A9, c9, rfl, hR9⟩ := hr2.out.reads
                    have H9 := Lib.hid hR9
                    clear hR9 hr2 hlt2
                    go_wp2_with fail
                    refine (HM2.out w2 A9 c9 H9.out (Lib.hid (HLt.out.next HL.out))).mono ?_
                    rintro e w3 ⟨v3, rfl, hrow, hb⟩
                    obtain ⟨A3, c3, rfl, hR3⟩ := hrow.reads
                    have H3 := Lib.hid hR3
                    clear hrow hR3
                    replace H1 := Lib.hid (H1.out.more_below hb)
                    replace HL := Lib.hid (HL.out.trans (hb.mono HL.out.size))
                    clear hb
                    go_wp2_with fail
                    refine (HM1.out w3 H1.out (Lib.hid (HLt.out.next HL.out))).mono ?_
                    rintro e w4 ⟨v4, rfl, hrow, hb⟩
                    obtain ⟨A4, c4, rfl, hR4⟩ := hrow.reads
                    have H4 := Lib.hid hR4
                    clear hrow hR4
                    replace H1 := Lib.hid (H1.out.more_below hb)
                    replace H3 := Lib.hid (H3.out.more_below hb)
                    replace HL := Lib.hid (HL.out.trans (hb.mono HL.out.size))
                    clear hb
                    go_wp2_with fail
                    refine (rsame_any w4 A3 A4 c3 c4 ms ms (by omega) (by omega) H3.out H4.out).mono ?_
                    rw [show decide (ms = ms) = true by simp]
                    rintro e w5 ⟨rfl, hb⟩
                    replace H1 := Lib.hid (H1.out.more_below hb)
                    replace HL := Lib.hid (HL.out.trans (hb.mono HL.out.size))
                    clear hb
                    go_wp2_with fail
                    refine (awake_any _ (Lib.hid (HLt.out.next HL.out))).mono ?_
                    rintro e w9 ⟨rfl, hb⟩
                    replace HL := Lib.hid (HL.out.trans (hb.mono HL.out.size))
                    clear hb
                    go_wp2
                    go_ret
                    exact ⟨rfl, HL.out⟩
                  exact AllReadyH.nil
                exact AllReadyH.nil
              exact AllReadyH.nil
            refine AllReadyH.cons (opsS (opsS (opsS (opsS ops0)))) (fun K hK => ?_) ?_
            · go_simp
              have HX2 : Hid (Blk (wt.drew.alloc (.cells #[.string kk, .int .i64 n, .string b, .string v] 46)) wt.heap.size 46 #[.string kk, .int .i64 n, .string b, .string v]) := Blk.new wt.drew 46 #[.string kk, .int .i64 n, .string b, .string v]
              try dsimp only
              refine hK.out _ _ ?_ (fun hHeldaq1 => ?_)
              · exact Kn.alloc_4 hHeldaq0.2.2.2.2 _
              clear hK K hHeldaq0
              try clear hb
              try simp only [Act.put, List.setIfInBounds_toArray, List.set_cons_zero, List.set_cons_succ]
              refine wpAnyH_ready (rs := [0]) (by kernel_rfl) (by simp) ?_
              refine AllReadyH.cons ops0 (fun K hK => ?_) ?_
              · go_simp
                have hB0 := Blk.new (wt.drew.alloc (.cells #[.string kk, .int .i64 n, .string b, .string v] 46)) 46 #[]
                rw [show (wt.drew.alloc (.cells #[.string kk, .int .i64 n, .string b, .string v] 46)).heap.size = wt.heap.size + 1 by simp] at hB0
                have hr : Hid (Row ((wt.drew.alloc (.cells #[.string kk, .int .i64 n, .string b, .string v] 46)).alloc (.cells #[] 46)) wt.heap.size 46 4 En.cells (.slice (some ⟨wt.heap.size + 1, 0, none⟩) 0 0) []) := RowN.of (xs := ([] : List En)) (f := En.cells) (size := 4) En.len (Nat.le_succ _) (Nat.le_refl _) (by decide) hB0 rfl rfl
                clear hB0
                replace HX2 := Lib.hid (HX2.out.alloc (.cells #[] 46))
                try dsimp only
                refine hK.out _ _ ?_ (fun hHeldaq2 => ?_)
                · exact Kn.alloc_4 hHeldaq1.2.2.2.2 _
                clear hK K hHeldaq1
                try clear hb
                try simp only [Act.put, List.setIfInBounds_toArray, List.set_cons_zero, List.set_cons_succ]
                refine wpAnyH_ready (rs := [2]) (by kernel_rfl) (by simp) ?_
                refine AllReadyH.cons (opsS (opsS ops0)) (fun K hK => ?_) ?_
                · skip
                  refine step_append_rows _ rfl _ _ 22 rfl wt.heap.size 46 i0 _ 4 56 Tryd.underlying22 hi0 hz0 hz1 hz2 rfl (by decide) (.slice (some ⟨wt.heap.size + 1, 0, none⟩) 0 0) [] rfl hr.out _ _ _ xs rfl (H1.out.below hHeldaq2.2.2.2.2.out.low) (fun y _ => rgy.one_E y) (by unfold maxLen; simp; omega) (by simp; omega) (hHeldaq2.2.2.2.2.out.low.size) ?_
                  intro v1 w1 hrow1 hgrow1
                  have hl1 := low_grown hHeldaq2.2.2.2.2.out.low (Nat.le_refl _) (hHeldaq2.2.2.2.2.out.low.size) hr.out hgrow1
                  replace HX2 := Lib.hid (HX2.out.grown hgrow1 (by simp [Value.ownBlock]))
                  have hr := Lib.hid hrow1
                  clear hgrow1 hrow1
                  try dsimp only
                  refine hK.out _ _ ?_ (fun hHeldaq3 => ?_)
                  · exact Kn.far_4 hHeldaq2.2.2.2.2 hl1
                  clear hK K hHeldaq2
                  try clear hb
                  try simp only [Act.put, List.setIfInBounds_toArray, List.set_cons_zero, List.set_cons_succ]
                  refine wpAnyH_ready (rs := [5]) (by kernel_rfl) (by simp) ?_
                  refine AllReadyH.cons (opsS (opsS (opsS (opsS (opsS ops0))))) (fun K hK => ?_) ?_
                  · skip
                    refine step_append_row _ rfl _ _ 22 rfl wt.heap.size 46 i0 _ 4 56 Tryd.underlying22 hi0 hz0 hz1 hz2 rfl (by decide) _ _ rfl hr.out En.len _ ⟨kk, n, b, v⟩ rfl (blk_cells (l := En.cells ⟨kk, n, b, v⟩) HX2.out) (rgy.one_E _) HX2.out.lt (by unfold maxLen; simp; omega) (by simp; omega) (hHeldaq3.2.2.2.2.out.low.size) ?_
                    intro v2 w2 hrow2 hgrow2
                    have hl2 := low_grown hHeldaq3.2.2.2.2.out.low (Nat.le_refl _) (hHeldaq3.2.2.2.2.out.low.size) hr.out hgrow2
                    rw [hzz.out] at hrow2
                    have hr2 := Lib.hid hrow2
                    clear hgrow2 hrow2 hr HX2
                    try dsimp only
                    refine hK.out _ _ ?_ (fun hHeldaq4 => ?_)
                    · exact Kn.far_4 hHeldaq3.2.2.2.2 hl2
                    clear hK K hHeldaq3
                    try clear hb
                    try simp only [Act.put, List.setIfInBounds_toArray, List.set_cons_zero, List.set_cons_succ]
                    refine wpAnyH_take (i := 6) (v := ?vaqx4x0x2x5i6) (opsS (opsS (opsS (opsS (opsS (opsS ops0)))))) (by kernel_rfl) (by kernel_rfl) (by kernel_rfl) (fun _ _ _ h => h) (Or.inl ⟨by rfl, ?yaqx4x0x2x5i6⟩) hHeldaq4 ?_
                    case yaqx4x0x2x5i6 => (intro w hSw; (try dsimp only at hSw); go_simp; try (with_reducible rfl))
                    try simp only [Act.put, List.setIfInBounds_toArray, List.set_cons_zero, List.set_cons_succ]
                    refine wpAnyH_done (by kernel_rfl) ?_ _
                    clear hHeldaq4
                    have hlt2 := Lib.hid hl2
                    clear hl2
                    replace HL := Lib.hid (HL.out.trans (hlt2.out.mono HL.out.size))
                    replace H1 := Lib.hid (H1.out.more_below hlt2.out)
                    obtain ⟨A9, c9, rfl, hR9⟩ := hr2.out.reads
                    have H9 := Lib.hid hR9
                    clear hR9 hr2 hlt2
                    go_wp2_with fail
                    refine (HM2.out w2 A9 c9 H9.out (Lib.hid (HLt.out.next HL.out))).mono ?_
                    rintro e w3 ⟨v3, rfl, hrow, hb⟩
                    obtain ⟨A3, c3, rfl, hR3⟩ := hrow.reads
                    have H3 := Lib.hid hR3
                    clear hrow hR3
                    replace H1 := Lib.hid (H1.out.more_below hb)
                    replace HL := Lib.hid (HL.out.trans (hb.mono HL.out.size))
                    clear hb
                    go_wp2_with fail
                    refine (HM1.out w3 H1.out (Lib.hid (HLt.out.next HL.out))).mono ?_
                    rintro e w4 ⟨v4, rfl, hrow, hb⟩
                    obtain ⟨A4, c4, rfl, hR4⟩ := hrow.reads
                    have H4 := Lib.hid hR4
                    clear hrow hR4
                    replace H1 := Lib.hid (H1.out.more_below hb)
                    replace H3 := Lib.hid (H3.out.more_below hb)
                    replace HL := Lib.hid (HL.out.trans (hb.mono HL.out.size))
                    clear hb
                    go_wp2_with fail
                    refine (rsame_any w4 A3 A4 c3 c4 ms ms (by omega) (by omega) H3.out H4.out).mono ?_
                    rw [show decide (ms = ms) = true by simp]
                    rintro e w5 ⟨rfl, hb⟩
                    replace H1 := Lib.hid (H1.out.more_below hb)
                    replace HL := Lib.hid (HL.out.trans (hb.mono HL.out.size))
                    clear hb
                    go_wp2_with fail
                    refine (awake_any _ (Lib.hid (HLt.out.next HL.out))).mono ?_
                    rintro e w9 ⟨rfl, hb⟩
                    replace HL := Lib.hid (HL.out.trans (hb.mono HL.out.size))
                    clear hb
                    go_wp2
                    go_ret
                    exact ⟨rfl, HL.out⟩
                  exact AllReadyH.nil
                exact AllReadyH.nil
              exact AllReadyH.nil
            exact AllReadyH.nil
        | true =>
          rw [valR_yes hn]
          rw [Bool.and_eq_true] at hn
          have hvs := value_size mr mz mu
          have hbk := Lib.hid (back (node := mn) (u := mu) hn.1 hn.2)
          have HC := Lib.hid (fun w hL => member_any mn (valueV mr mz mu) w (by omega) (by omega) hL)
          clear hn hvs
          generalize valueV mr mz mu = sv at *
          have b0 : wt.cell? ⟨W.heap.size, 0, none⟩ = some (.string mn) := HB.out.cell 0
          go_wp2_with fail
          clear b0
          refine (HC.out wt (Lib.hid (HLt.out.next HL.out))).mono ?_
          cases hm : memOk mn sv with
          | false =>
            rw [memR_no hm]
            rintro e w6 ⟨rfl, hb⟩
            replace HB := Lib.hid (Blk.below (Hid.out HB) hb (Hid.out HB).lt)
            replace HX := Lib.hid (Blk.below (Hid.out HX) hb (Hid.out HX).lt)
            replace H1 := Lib.hid ((Hid.out H1).more_below hb)
            replace HL := Lib.hid ((Hid.out HL).trans (hb.mono (Hid.out HL).size))
            clear hb
            have hb := below_lit w6 (.cells #[.string ⟨#[]⟩, .string ⟨#[]⟩, .string ⟨#[]⟩, .bool false] 26)
            replace HB := Lib.hid (Blk.below (Hid.out HB) hb (Hid.out HB).lt)
            replace HX := Lib.hid (Blk.below (Hid.out HX) hb (Hid.out HX).lt)
            replace H1 := Lib.hid ((Hid.out H1).more_below hb)
            replace HL := Lib.hid ((Hid.out HL).trans (hb.mono (Hid.out HL).size))
            clear hb
            clear hm hbk HC
            have x0 : (w6.alloc (.cells #[.string ⟨#[]⟩, .string ⟨#[]⟩, .string ⟨#[]⟩, .bool false] 26)).cell? ⟨gx, 0, none⟩ = some (.string kk) := HX.out.cell 0
            by_cases z5 : 5 ≤ kk.size
            · have z5i : (5 : Int) ≤ (kk.size : Int) := by omega
              cases hpre : ((kk.extract 0 5).toList == [110, 111, 100, 101, 47]) with
              | true =>
                go_wp2_with fail
                refine (awake_any _ (Lib.hid (HLt.out.next HL.out))).mono ?_; rintro e w9 ⟨rfl, hb⟩; replace HL := Lib.hid (HL.out.trans (hb.mono HL.out.size)); clear hb; go_wp2; go_ret; exact ⟨rfl, HL.out⟩
              | false =>
                have hun := under_not hpre (r := ⟨n, b, v⟩)
                have hzz := hZ
                have HM1 := Lib.hid (fun w h hL => members_any w A ca xs (by omega) h HS.out hsh.out hL)
                have HM2 : Hid (∀ (w : World) (A : Option Addr) (c : Nat), Reads w w.heap.size 4 A zs.length (zs.flatMap En.cells) → Hid (Lets w) → Calls Tryd.prog 11 #[.slice A zs.length c] w (RowM w (mems xs))) := fun w A c h hL => by
                  have := members_any w A c zs hzl.out h hzs.out hzs2.out hL
                  rwa [hzm.out (hun)] at this
                have hml := mems_len xs
                generalize mems xs = ms at *
                clear HS hsh hzs hzs2 hzm hZ
                go_wp2_with fail
                clear x0 hpre hun
                generalize (w6.alloc (.cells #[.string ⟨#[]⟩, .string ⟨#[]⟩, .string ⟨#[]⟩, .bool false] 26)) = wt at *
                have hgxl := HX.out.lt
                have test := Kn.drew_4 (Kn.of_4 (Kn.new_4 (w0 := wt) (M := wt.heap.size) (p0 := ⟨gx, 0, none⟩) (p1 := ⟨gx, 1, none⟩) (p2 := ⟨gx, 2, none⟩) (p3 := ⟨gx, 3, none⟩) (v0 := .string kk) (v1 := .int .i64 n) (v2 := .string b) (v3 := .string v) (Nat.le_refl _) (HX.out.cell 0) hgxl (HX.out.cell 1) hgxl (HX.out.cell 2) hgxl (HX.out.cell 3) hgxl)).2.2.2.2
                refine wp_region_held_drew (S := (fun w' => w'.cell? ⟨gx, 0, none⟩ = some (.string kk) ∧ w'.cell? ⟨gx, 1, none⟩ = some (.int .i64 n) ∧ w'.cell? ⟨gx, 2, none⟩ = some (.string b) ∧ w'.cell? ⟨gx, 3, none⟩ = some (.string v) ∧ Hid (Kn wt.heap.size wt [(⟨gx, 0, none⟩, .string kk), (⟨gx, 1, none⟩, .int .i64 n), (⟨gx, 2, none⟩, .string b), (⟨gx, 3, none⟩, .string v)] w'))) (by kernel_rfl) ?_ (fun hHeldbp0 => ?_)
                · exact test
                refine wpAnyH_take (i := 1) (v := ?vbp1) (opsS ops0) (by kernel_rfl) (by kernel_rfl) (by kernel_rfl) (fun _ _ _ h => h) (Or.inl ⟨by rfl, ?ybp1⟩) hHeldbp0 ?_
                case ybp1 => (intro w hSw; (try dsimp only at hSw); go_simp; try (with_reducible rfl))
                try simp only [Act.put, List.setIfInBounds_toArray, List.set_cons_zero, List.set_cons_succ]
                refine wpAnyH_take (i := 3) (v := ?vbp3) (opsS (opsS (opsS ops0))) (by kernel_rfl) (by kernel_rfl) (by kernel_rfl) (fun _ _ _ h => h) (Or.inl ⟨by rfl, ?ybp3⟩) hHeldbp0 ?_
                case ybp3 => (intro w hSw; (try dsimp only at hSw); go_simp; try (with_reducible rfl))
                try simp only [Act.put, List.setIfInBounds_toArray, List.set_cons_zero, List.set_cons_succ]
                refine wpAnyH_ready (rs := [0, 4]) (by kernel_rfl) (by simp) ?_
                refine AllReadyH.cons ops0 (fun K hK => ?_) ?_
                · go_simp
                  have hB0 : Blk (wt.drew.alloc (.cells #[] 46)) wt.heap.size 46 #[] := Blk.new wt.drew 46 #[]
                  have hr : Hid (Row (wt.drew.alloc (.cells #[] 46)) wt.heap.size 46 4 En.cells (.slice (some ⟨wt.heap.size, 0, none⟩) 0 0) []) := RowN.of (xs := ([] : List En)) (f := En.cells) (size := 4) En.len (Nat.le_refl _) (Nat.le_refl _) (by decide) hB0 rfl rfl
                  clear hB0
                  try dsimp only
                  refine hK.out _ _ ?_ (fun hHeldbp1 => ?_)
                  · exact Kn.alloc_4 hHeldbp0.2.2.2.2 _
                  clear hK K hHeldbp0
                  try clear hb
                  try simp only [Act.put, List.setIfInBounds_toArray, List.set_cons_zero, List.set_cons_succ]
                  refine wpAnyH_ready (rs := [2, 4]) (by kernel_rfl) (by simp) ?_
                  refine AllReadyH.cons (opsS (opsS ops0)) (fun K hK => ?_) ?_
                  · skip
                    refine step_append_rows _ rfl _ _ 22 rfl wt.heap.size 46 i0 _ 4 56 Tryd.underlying22 hi0 hz0 hz1 hz2 rfl (by decide) (.slice (some ⟨wt.heap.size, 0, none⟩) 0 0) [] rfl hr.out _ _ _ xs rfl (H1.out.below hHeldbp1.2.2.2.2.out.low) (fun y _ => rgy.one_E y) (by unfold maxLen; simp; omega) (by simp; omega) (hHeldbp1.2.2.2.2.out.low.size) ?_
                    intro v1 w1 hrow1 hgrow1
                    have hl1 := low_grown hHeldbp1.2.2.2.2.out.low (Nat.le_refl _) (hHeldbp1.2.2.2.2.out.low.size) hr.out hgrow1
                    have hr := Lib.hid hrow1
                    clear hgrow1 hrow1
                    try dsimp only
                    refine hK.out _ _ ?_ (fun hHeldbp2 => ?_)
                    · exact Kn.far_4 hHeldbp1.2.2.2.2 hl1
                    clear hK K hHeldbp1
                    try clear hb
                    try simp only [Act.put, List.setIfInBounds_toArray, List.set_cons_zero, List.set_cons_succ]
                    refine wpAnyH_ready (rs := [4]) (by kernel_rfl) (by simp) ?_
                    refine AllReadyH.cons (opsS (opsS (opsS (opsS ops0)))) (fun K hK => ?_) ?_
                    · go_simp
                      have HX2 := Lib.hid (Blk.new w1 46 #[.string kk, .int .i64 n, .string b, .string v])
                      replace hr := Lib.hid (hr.out.alloc (.cells #[.string kk, .int .i64 n, .string b, .string v] 46))
                      try dsimp only
                      refine hK.out _ _ ?_ (fun hHeldbp3 => ?_)
                      · exact Kn.alloc_4 hHeldbp2.2.2.2.2 _
                      clear hK K hHeldbp2
                      try clear hb
                      try simp only [Act.put, List.setIfInBounds_toArray, List.set_cons_zero, List.set_cons_succ]
                      refine wpAnyH_ready (rs := [5]) (by kernel_rfl) (by simp) ?_
                      refine AllReadyH.cons (opsS (opsS (opsS (opsS (opsS ops0))))) (fun K hK => ?_) ?_
                      · skip
                        refine step_append_row _ rfl _ _ 22 rfl wt.heap.size 46 i0 _ 4 56 Tryd.underlying22 hi0 hz0 hz1 hz2 rfl (by decide) _ _ rfl hr.out En.len _ ⟨kk, n, b, v⟩ rfl (blk_cells (l := En.cells ⟨kk, n, b, v⟩) HX2.out) (rgy.one_E _) HX2.out.lt (by unfold maxLen; simp; omega) (by simp; omega) (hHeldbp3.2.2.2.2.out.low.size) ?_
                        intro v2 w2 hrow2 hgrow2
                        have hl2 := low_grown hHeldbp3.2.2.2.2.out.low (Nat.le_refl _) (hHeldbp3.2.2.2.2.out.low.size) hr.out hgrow2
                        rw [hzz.out] at hrow2
                        have hr2 := Lib.hid hrow2
                        clear hgrow2 hrow2 hr HX2
                        try dsimp only
                        refine hK.out _ _ ?_ (fun hHeldbp4 => ?_)
                        · exact Kn.far_4 hHeldbp3.2.2.2.2 hl2
                        clear hK K hHeldbp3
                        try clear hb
                        try simp only [Act.put, List.setIfInBounds_toArray, List.set_cons_zero, List.set_cons_succ]
                        refine wpAnyH_take (i := 6) (v := ?vbpx0x2x4x5i6) (opsS (opsS (opsS (opsS (opsS (opsS ops0)))))) (by kernel_rfl) (by kernel_rfl) (by kernel_rfl) (fun _ _ _ h => h) (Or.inl ⟨by rfl, ?ybpx0x2x4x5i6⟩) hHeldbp4 ?_
                        case ybpx0x2x4x5i6 => (intro w hSw; (try dsimp only at hSw); go_simp; try (with_reducible rfl))
                        try simp only [Act.put, List.setIfInBounds_toArray, List.set_cons_zero, List.set_cons_succ]
                        refine wpAnyH_done (by kernel_rfl) ?_ _
                        clear hHeldbp4
                        have hlt2 := Lib.hid hl2
                        clear hl2
                        replace HL := Lib.hid (HL.out.trans (hlt2.out.mono HL.out.size))
                        replace H1 := Lib.hid (H1.out.more_below hlt2.out)
                        obtain ⟨A9, c9, rfl, hR9⟩ := hr2.out.reads
                        have H9 := Lib.hid hR9
                        clear hR9 hr2 hlt2
                        go_wp2_with fail
                        refine (HM2.out w2 A9 c9 H9.out (Lib.hid (HLt.out.next HL.out))).mono ?_
                        rintro e w3 ⟨v3, rfl, hrow, hb⟩
                        obtain ⟨A3, c3, rfl, hR3⟩ := hrow.reads
                        have H3 := Lib.hid hR3
                        clear hrow hR3
                        replace H1 := Lib.hid (H1.out.more_below hb)
                        replace HL := Lib.hid (HL.out.trans (hb.mono HL.out.size))
                        clear hb
                        go_wp2_with fail
                        refine (HM1.out w3 H1.out (Lib.hid (HLt.out.next HL.out))).mono ?_
                        rintro e w4 ⟨v4, rfl, hrow, hb⟩
                        obtain ⟨A4, c4, rfl, hR4⟩ := hrow.reads
                        have H4 := Lib.hid hR4
                        clear hrow hR4
                        replace H1 := Lib.hid (H1.out.more_below hb)
                        replace H3 := Lib.hid (H3.out.more_below hb)
                        replace HL := Lib.hid (HL.out.trans (hb.mono HL.out.size))
                        clear hb
                        go_wp2_with fail
                        refine (rsame_any w4 A3 A4 c3 c4 ms ms (by omega) (by omega) H3.out H4.out).mono ?_
                        rw [show decide (ms = ms) = true by simp]
                        rintro e w5 ⟨rfl, hb⟩
                        replace H1 := Lib.hid (H1.out.more_below hb)
                        replace HL := Lib.hid (HL.out.trans (hb.mono HL.out.size))
                        clear hb
                        go_wp2_with fail
                        refine (awake_any _ (Lib.hid (HLt.out.next HL.out))).mono ?_
                        rintro e w9 ⟨rfl, hb⟩
                        replace HL := Lib.hid (HL.out.trans (hb.mono HL.out.size))
                        clear hb
                        go_wp2
                        go_ret
                        exact ⟨rfl, HL.out⟩
                      exact AllReadyH.nil
                    exact AllReadyH.nil
                  refine AllReadyH.cons (opsS (opsS (opsS (opsS ops0)))) (fun K hK => ?_) ?_
                  · go_simp
                    have HX2 := Blk.new (wt.drew.alloc (.cells #[] 46)) 46 #[.string kk, .int .i64 n, .string b, .string v]
                    rw [show (wt.drew.alloc (.cells #[] 46)).heap.size = wt.heap.size + 1 by simp] at HX2
                    replace HX2 := Lib.hid HX2
                    replace hr := Lib.hid (hr.out.alloc (.cells #[.string kk, .int .i64 n, .string b, .string v] 46))
                    try dsimp only
                    refine hK.out _ _ ?_ (fun hHeldbp2 => ?_)
                    · exact Kn.alloc_4 hHeldbp1.2.2.2.2 _
                    clear hK K hHeldbp1
                    try clear hb
                    try simp only [Act.put, List.setIfInBounds_toArray, List.set_cons_zero, List.set_cons_succ]
                    refine wpAnyH_ready (rs := [2]) (by kernel_rfl) (by simp) ?_
                    refine AllReadyH.cons (opsS (opsS ops0)) (fun K hK => ?_) ?_
                    · skip
                      refine step_append_rows _ rfl _ _ 22 rfl wt.heap.size 46 i0 _ 4 56 Tryd.underlying22 hi0 hz0 hz1 hz2 rfl (by decide) (.slice (some ⟨wt.heap.size, 0, none⟩) 0 0) [] rfl hr.out _ _ _ xs rfl (H1.out.below hHeldbp2.2.2.2.2.out.low) (fun y _ => rgy.one_E y) (by unfold maxLen; simp; omega) (by simp; omega) (hHeldbp2.2.2.2.2.out.low.size) ?_
                      intro v1 w1 hrow1 hgrow1
                      have hl1 := low_grown hHeldbp2.2.2.2.2.out.low (Nat.le_refl _) (hHeldbp2.2.2.2.2.out.low.size) hr.out hgrow1
                      replace HX2 := Lib.hid (HX2.out.grown hgrow1 (by simp [Value.ownBlock]))
                      have hr := Lib.hid hrow1
                      clear hgrow1 hrow1
                      try dsimp only
                      refine hK.out _ _ ?_ (fun hHeldbp3 => ?_)
                      · exact Kn.far_4 hHeldbp2.2.2.2.2 hl1
                      clear hK K hHeldbp2
                      try clear hb
                      try simp only [Act.put, List.setIfInBounds_toArray, List.set_cons_zero, List.set_cons_succ]
                      refine wpAnyH_ready (rs := [5]) (by kernel_rfl) (by simp) ?_
                      refine AllReadyH.cons (opsS (opsS (opsS (opsS (opsS ops0))))) (fun K hK => ?_) ?_
                      · skip
                        refine step_append_row _ rfl _ _ 22 rfl wt.heap.size 46 i0 _ 4 56 Tryd.underlying22 hi0 hz0 hz1 hz2 rfl (by decide) _ _ rfl hr.out En.len _ ⟨kk, n, b, v⟩ rfl (blk_cells (l := En.cells ⟨kk, n, b, v⟩) HX2.out) (rgy.one_E _) HX2.out.lt (by unfold maxLen; simp; omega) (by simp; omega) (hHeldbp3.2.2.2.2.out.low.size) ?_
                        intro v2 w2 hrow2 hgrow2
                        have hl2 := low_grown hHeldbp3.2.2.2.2.out.low (Nat.le_refl _) (hHeldbp3.2.2.2.2.out.low.size) hr.out hgrow2
                        rw [hzz.out] at hrow2
                        have hr2 := Lib.hid hrow2
                        clear hgrow2 hrow2 hr HX2
                        try dsimp only
                        refine hK.out _ _ ?_ (fun hHeldbp4 => ?_)
                        · exact Kn.far_4 hHeldbp3.2.2.2.2 hl2
                        clear hK K hHeldbp3
                        try clear hb
                        try simp only [Act.put, List.setIfInBounds_toArray, List.set_cons_zero, List.set_cons_succ]
                        refine wpAnyH_take (i := 6) (v := ?vbpx0x4x2x5i6) (opsS (opsS (opsS (opsS (opsS (opsS ops0)))))) (by kernel_rfl) (by kernel_rfl) (by kernel_rfl) (fun _ _ _ h => h) (Or.inl ⟨by rfl, ?ybpx0x4x2x5i6⟩) hHeldbp4 ?_
                        case ybpx0x4x2x5i6 => (intro w hSw; (try dsimp only at hSw); go_simp; try (with_reducible rfl))
                        try simp only [Act.put, List.setIfInBounds_toArray, List.set_cons_zero, List.set_cons_succ]
                        refine wpAnyH_done (by kernel_rfl) ?_ _
                        clear hHeldbp4
                        have hlt2 := Lib.hid hl2
                        clear hl2
                        replace HL := Lib.hid (HL.out.trans (hlt2.out.mono HL.out.size))
                        replace H1 := Lib.hid (H1.out.more_below hlt2.out)
                        obtain ⟨A9, c9, rfl, hR9⟩ := hr2.out.reads
                        have H9 := Lib.hid hR9
                        clear hR9 hr2 hlt2
                        go_wp2_with fail
                        refine (HM2.out w2 A9 c9 H9.out (Lib.hid (HLt.out.next HL.out))).mono ?_
                        rintro e w3 ⟨v3, rfl, hrow, hb⟩
                        obtain ⟨A3, c3, rfl, hR3⟩ := hrow.reads
                        have H3 := Lib.hid hR3
                        clear hrow hR3
                        replace H1 := Lib.hid (H1.out.more_below hb)
                        replace HL := Lib.hid (HL.out.trans (hb.mono HL.out.size))
                        clear hb
                        go_wp2_with fail
                        refine (HM1.out w3 H1.out (Lib.hid (HLt.out.next HL.out))).mono ?_
                        rintro e w4 ⟨v4, rfl, hrow, hb⟩
                        obtain ⟨A4, c4, rfl, hR4⟩ := hrow.reads
                        have H4 := Lib.hid hR4
                        clear hrow hR4
                        replace H1 := Lib.hid (H1.out.more_below hb)
                        replace H3 := Lib.hid (H3.out.more_below hb)
                        replace HL := Lib.hid (HL.out.trans (hb.mono HL.out.size))
                        clear hb
                        go_wp2_with fail
                        refine (rsame_any w4 A3 A4 c3 c4 ms ms (by omega) (by omega) H3.out H4.out).mono ?_
                        rw [show decide (ms = ms) = true by simp]
                        rintro e w5 ⟨rfl, hb⟩
                        replace H1 := Lib.hid (H1.out.more_below hb)
                        replace HL := Lib.hid (HL.out.trans (hb.mono HL.out.size))
                        clear hb
                        go_wp2_with fail
                        refine (awake_any _ (Lib.hid (HLt.out.next HL.out))).mono ?_
                        rintro e w9 ⟨rfl, hb⟩
                        replace HL := Lib.hid (HL.out.trans (hb.mono HL.out.size))
                        clear hb
                        go_wp2
                        go_ret
                        exact ⟨rfl, HL.out⟩
                      exact AllReadyH.nil
                    exact AllReadyH.nil
                  exact AllReadyH.nil
                refine AllReadyH.cons (opsS (opsS (opsS (opsS ops0)))) (fun K hK => ?_) ?_
                · go_simp
                  have HX2 : Hid (Blk (wt.drew.alloc (.cells #[.string kk, .int .i64 n, .string b, .string v] 46)) wt.heap.size 46 #[.string kk, .int .i64 n, .string b, .string v]) := Blk.new wt.drew 46 #[.string kk, .int .i64 n, .string b, .string v]
                  try dsimp only
                  refine hK.out _ _ ?_ (fun hHeldbp1 => ?_)
                  · exact Kn.alloc_4 hHeldbp0.2.2.2.2 _
                  clear hK K hHeldbp0
                  try clear hb
                  try simp only [Act.put, List.setIfInBounds_toArray, List.set_cons_zero, List.set_cons_succ]
                  refine wpAnyH_ready (rs := [0]) (by kernel_rfl) (by simp) ?_
                  refine AllReadyH.cons ops0 (fun K hK => ?_) ?_
                  · go_simp
                    have hB0 := Blk.new (wt.drew.alloc (.cells #[.string kk, .int .i64 n, .string b, .string v] 46)) 46 #[]
                    rw [show (wt.drew.alloc (.cells #[.string kk, .int .i64 n, .string b, .string v] 46)).heap.size = wt.heap.size + 1 by simp] at hB0
                    have hr : Hid (Row ((wt.drew.alloc (.cells #[.string kk, .int .i64 n, .string b, .string v] 46)).alloc (.cells #[] 46)) wt.heap.size 46 4 En.cells (.slice (some ⟨wt.heap.size + 1, 0, none⟩) 0 0) []) := RowN.of (xs := ([] : List En)) (f := En.cells) (size := 4) En.len (Nat.le_succ _) (Nat.le_refl _) (by decide) hB0 rfl rfl
                    clear hB0
                    replace HX2 := Lib.hid (HX2.out.alloc (.cells #[] 46))
                    try dsimp only
                    refine hK.out _ _ ?_ (fun hHeldbp2 => ?_)
                    · exact Kn.alloc_4 hHeldbp1.2.2.2.2 _
                    clear hK K hHeldbp1
                    try clear hb
                    try simp only [Act.put, List.setIfInBounds_toArray, List.set_cons_zero, List.set_cons_succ]
                    refine wpAnyH_ready (rs := [2]) (by kernel_rfl) (by simp) ?_
                    refine AllReadyH.cons (opsS (opsS ops0)) (fun K hK => ?_) ?_
                    · skip
                      refine step_append_rows _ rfl _ _ 22 rfl wt.heap.size 46 i0 _ 4 56 Tryd.underlying22 hi0 hz0 hz1 hz2 rfl (by decide) (.slice (some ⟨wt.heap.size + 1, 0, none⟩) 0 0) [] rfl hr.out _ _ _ xs rfl (H1.out.below hHeldbp2.2.2.2.2.out.low) (fun y _ => rgy.one_E y) (by unfold maxLen; simp; omega) (by simp; omega) (hHeldbp2.2.2.2.2.out.low.size) ?_
                      intro v1 w1 hrow1 hgrow1
                      have hl1 := low_grown hHeldbp2.2.2.2.2.out.low (Nat.le_refl _) (hHeldbp2.2.2.2.2.out.low.size) hr.out hgrow1
                      replace HX2 := Lib.hid (HX2.out.grown hgrow1 (by simp [Value.ownBlock]))
                      have hr := Lib.hid hrow1
                      clear hgrow1 hrow1
                      try dsimp only
                      refine hK.out _ _ ?_ (fun hHeldbp3 => ?_)
                      · exact Kn.far_4 hHeldbp2.2.2.2.2 hl1
                      clear hK K hHeldbp2
                      try clear hb
                      try simp only [Act.put, List.setIfInBounds_toArray, List.set_cons_zero, List.set_cons_succ]
                      refine wpAnyH_ready (rs := [5]) (by kernel_rfl) (by simp) ?_
                      refine AllReadyH.cons (opsS (opsS (opsS (opsS (opsS ops0))))) (fun K hK => ?_) ?_
                      · skip
                        refine step_append_row _ rfl _ _ 22 rfl wt.heap.size 46 i0 _ 4 56 Tryd.underlying22 hi0 hz0 hz1 hz2 rfl (by decide) _ _ rfl hr.out En.len _ ⟨kk, n, b, v⟩ rfl (blk_cells (l := En.cells ⟨kk, n, b, v⟩) HX2.out) (rgy.one_E _) HX2.out.lt (by unfold maxLen; simp; omega) (by simp; omega) (hHeldbp3.2.2.2.2.out.low.size) ?_
                        intro v2 w2 hrow2 hgrow2
                        have hl2 := low_grown hHeldbp3.2.2.2.2.out.low (Nat.le_refl _) (hHeldbp3.2.2.2.2.out.low.size) hr.out hgrow2
                        rw [hzz.out] at hrow2
                        have hr2 := Lib.hid hrow2
                        clear hgrow2 hrow2 hr HX2
                        try dsimp only
                        refine hK.out _ _ ?_ (fun hHeldbp4 => ?_)
                        · exact Kn.far_4 hHeldbp3.2.2.2.2 hl2
                        clear hK K hHeldbp3
                        try clear hb
                        try simp only [Act.put, List.setIfInBounds_toArray, List.set_cons_zero, List.set_cons_succ]
                        refine wpAnyH_take (i := 6) (v := ?vbpx4x0x2x5i6) (opsS (opsS (opsS (opsS (opsS (opsS ops0)))))) (by kernel_rfl) (by kernel_rfl) (by kernel_rfl) (fun _ _ _ h => h) (Or.inl ⟨by rfl, ?ybpx4x0x2x5i6⟩) hHeldbp4 ?_
                        case ybpx4x0x2x5i6 => (intro w hSw; (try dsimp only at hSw); go_simp; try (with_reducible rfl))
                        try simp only [Act.put, List.setIfInBounds_toArray, List.set_cons_zero, List.set_cons_succ]
                        refine wpAnyH_done (by kernel_rfl) ?_ _
                        clear hHeldbp4
                        have hlt2 := Lib.hid hl2
                        clear hl2
                        replace HL := Lib.hid (HL.out.trans (hlt2.out.mono HL.out.size))
                        replace H1 := Lib.hid (H1.out.more_below hlt2.out)
                        obtain ⟨A9, c9, rfl, hR9⟩ := hr2.out.reads
                        have H9 := Lib.hid hR9
                        clear hR9 hr2 hlt2
                        go_wp2_with fail
                        refine (HM2.out w2 A9 c9 H9.out (Lib.hid (HLt.out.next HL.out))).mono ?_
                        rintro e w3 ⟨v3, rfl, hrow, hb⟩
                        obtain ⟨A3, c3, rfl, hR3⟩ := hrow.reads
                        have H3 := Lib.hid hR3
                        clear hrow hR3
                        replace H1 := Lib.hid (H1.out.more_below hb)
                        replace HL := Lib.hid (HL.out.trans (hb.mono HL.out.size))
                        clear hb
                        go_wp2_with fail
                        refine (HM1.out w3 H1.out (Lib.hid (HLt.out.next HL.out))).mono ?_
                        rintro e w4 ⟨v4, rfl, hrow, hb⟩
                        obtain ⟨A4, c4, rfl, hR4⟩ := hrow.reads
                        have H4 := Lib.hid hR4
                        clear hrow hR4
                        replace H1 := Lib.hid (H1.out.more_below hb)
                        replace H3 := Lib.hid (H3.out.more_below hb)
                        replace HL := Lib.hid (HL.out.trans (hb.mono HL.out.size))
                        clear hb
                        go_wp2_with fail
                        refine (rsame_any w4 A3 A4 c3 c4 ms ms (by omega) (by omega) H3.out H4.out).mono ?_
                        rw [show decide (ms = ms) = true by simp]
                        rintro e w5 ⟨rfl, hb⟩
                        replace H1 := Lib.hid (H1.out.more_below hb)
                        replace HL := Lib.hid (HL.out.trans (hb.mono HL.out.size))
                        clear hb
                        go_wp2_with fail
                        refine (awake_any _ (Lib.hid (HLt.out.next HL.out))).mono ?_
                        rintro e w9 ⟨rfl, hb⟩
                        replace HL := Lib.hid (HL.out.trans (hb.mono HL.out.size))
                        clear hb
                        go_wp2
                        go_ret
                        exact ⟨rfl, HL.out⟩
                      exact AllReadyH.nil
                    exact AllReadyH.nil
                  exact AllReadyH.nil
                exact AllReadyH.nil
            · have hun := under_low z5 (r := ⟨n, b, v⟩)
              have hzz := hZ
              have HM1 := Lib.hid (fun w h hL => members_any w A ca xs (by omega) h HS.out hsh.out hL)
              have HM2 : Hid (∀ (w : World) (A : Option Addr) (c : Nat), Reads w w.heap.size 4 A zs.length (zs.flatMap En.cells) → Hid (Lets w) → Calls Tryd.prog 11 #[.slice A zs.length c] w (RowM w (mems xs))) := fun w A c h hL => by
                have := members_any w A c zs hzl.out h hzs.out hzs2.out hL
                rwa [hzm.out (hun)] at this
              have hml := mems_len xs
              generalize mems xs = ms at *
              clear HS hsh hzs hzs2 hzm hZ
              go_wp2_with fail
              clear x0 hun
              generalize (w6.alloc (.cells #[.string ⟨#[]⟩, .string ⟨#[]⟩, .string ⟨#[]⟩, .bool false] 26)) = wt at *
              have hgxl := HX.out.lt
              have test := Kn.drew_4 (Kn.of_4 (Kn.new_4 (w0 := wt) (M := wt.heap.size) (p0 := ⟨gx, 0, none⟩) (p1 := ⟨gx, 1, none⟩) (p2 := ⟨gx, 2, none⟩) (p3 := ⟨gx, 3, none⟩) (v0 := .string kk) (v1 := .int .i64 n) (v2 := .string b) (v3 := .string v) (Nat.le_refl _) (HX.out.cell 0) hgxl (HX.out.cell 1) hgxl (HX.out.cell 2) hgxl (HX.out.cell 3) hgxl)).2.2.2.2
              refine wp_region_held_drew (S := (fun w' => w'.cell? ⟨gx, 0, none⟩ = some (.string kk) ∧ w'.cell? ⟨gx, 1, none⟩ = some (.int .i64 n) ∧ w'.cell? ⟨gx, 2, none⟩ = some (.string b) ∧ w'.cell? ⟨gx, 3, none⟩ = some (.string v) ∧ Hid (Kn wt.heap.size wt [(⟨gx, 0, none⟩, .string kk), (⟨gx, 1, none⟩, .int .i64 n), (⟨gx, 2, none⟩, .string b), (⟨gx, 3, none⟩, .string v)] w'))) (by kernel_rfl) ?_ (fun hHeldbq0 => ?_)
              · exact test
              refine wpAnyH_take (i := 1) (v := ?vbq1) (opsS ops0) (by kernel_rfl) (by kernel_rfl) (by kernel_rfl) (fun _ _ _ h => h) (Or.inl ⟨by rfl, ?ybq1⟩) hHeldbq0 ?_
              case ybq1 => (intro w hSw; (try dsimp only at hSw); go_simp; try (with_reducible rfl))
              try simp only [Act.put, List.setIfInBounds_toArray, List.set_cons_zero, List.set_cons_succ]
              refine wpAnyH_take (i := 3) (v := ?vbq3) (opsS (opsS (opsS ops0))) (by kernel_rfl) (by kernel_rfl) (by kernel_rfl) (fun _ _ _ h => h) (Or.inl ⟨by rfl, ?ybq3⟩) hHeldbq0 ?_
              case ybq3 => (intro w hSw; (try dsimp only at hSw); go_simp; try (with_reducible rfl))
              try simp only [Act.put, List.setIfInBounds_toArray, List.set_cons_zero, List.set_cons_succ]
              refine wpAnyH_ready (rs := [0, 4]) (by kernel_rfl) (by simp) ?_
              refine AllReadyH.cons ops0 (fun K hK => ?_) ?_
              · go_simp
                have hB0 : Blk (wt.drew.alloc (.cells #[] 46)) wt.heap.size 46 #[] := Blk.new wt.drew 46 #[]
                have hr : Hid (Row (wt.drew.alloc (.cells #[] 46)) wt.heap.size 46 4 En.cells (.slice (some ⟨wt.heap.size, 0, none⟩) 0 0) []) := RowN.of (xs := ([] : List En)) (f := En.cells) (size := 4) En.len (Nat.le_refl _) (Nat.le_refl _) (by decide) hB0 rfl rfl
                clear hB0
                try dsimp only
                refine hK.out _ _ ?_ (fun hHeldbq1 => ?_)
                · exact Kn.alloc_4 hHeldbq0.2.2.2.2 _
                clear hK K hHeldbq0
                try clear hb
                try simp only [Act.put, List.setIfInBounds_toArray, List.set_cons_zero, List.set_cons_succ]
                refine wpAnyH_ready (rs := [2, 4]) (by kernel_rfl) (by simp) ?_
                refine AllReadyH.cons (opsS (opsS ops0)) (fun K hK => ?_) ?_
                · skip
                  refine step_append_rows _ rfl _ _ 22 rfl wt.heap.size 46 i0 _ 4 56 Tryd.underlying22 hi0 hz0 hz1 hz2 rfl (by decide) (.slice (some ⟨wt.heap.size, 0, none⟩) 0 0) [] rfl hr.out _ _ _ xs rfl (H1.out.below hHeldbq1.2.2.2.2.out.low) (fun y _ => rgy.one_E y) (by unfold maxLen; simp; omega) (by simp; omega) (hHeldbq1.2.2.2.2.out.low.size) ?_
                  intro v1 w1 hrow1 hgrow1
                  have hl1 := low_grown hHeldbq1.2.2.2.2.out.low (Nat.le_refl _) (hHeldbq1.2.2.2.2.out.low.size) hr.out hgrow1
                  have hr := Lib.hid hrow1
                  clear hgrow1 hrow1
                  try dsimp only
                  refine hK.out _ _ ?_ (fun hHeldbq2 => ?_)
                  · exact Kn.far_4 hHeldbq1.2.2.2.2 hl1
                  clear hK K hHeldbq1
                  try clear hb
                  try simp only [Act.put, List.setIfInBounds_toArray, List.set_cons_zero, List.set_cons_succ]
                  refine wpAnyH_ready (rs := [4]) (by kernel_rfl) (by simp) ?_
                  refine AllReadyH.cons (opsS (opsS (opsS (opsS ops0)))) (fun K hK => ?_) ?_
                  · go_simp
                    have HX2 := Lib.hid (Blk.new w1 46 #[.string kk, .int .i64 n, .string b, .string v])
                    replace hr := Lib.hid (hr.out.alloc (.cells #[.string kk, .int .i64 n, .string b, .string v] 46))
                    try dsimp only
                    refine hK.out _ _ ?_ (fun hHeldbq3 => ?_)
                    · exact Kn.alloc_4 hHeldbq2.2.2.2.2 _
                    clear hK K hHeldbq2
                    try clear hb
                    try simp only [Act.put, List.setIfInBounds_toArray, List.set_cons_zero, List.set_cons_succ]
                    refine wpAnyH_ready (rs := [5]) (by kernel_rfl) (by simp) ?_
                    refine AllReadyH.cons (opsS (opsS (opsS (opsS (opsS ops0))))) (fun K hK => ?_) ?_
                    · skip
                      refine step_append_row _ rfl _ _ 22 rfl wt.heap.size 46 i0 _ 4 56 Tryd.underlying22 hi0 hz0 hz1 hz2 rfl (by decide) _ _ rfl hr.out En.len _ ⟨kk, n, b, v⟩ rfl (blk_cells (l := En.cells ⟨kk, n, b, v⟩) HX2.out) (rgy.one_E _) HX2.out.lt (by unfold maxLen; simp; omega) (by simp; omega) (hHeldbq3.2.2.2.2.out.low.size) ?_
                      intro v2 w2 hrow2 hgrow2
                      have hl2 := low_grown hHeldbq3.2.2.2.2.out.low (Nat.le_refl _) (hHeldbq3.2.2.2.2.out.low.size) hr.out hgrow2
                      rw [hzz.out] at hrow2
                      have hr2 := Lib.hid hrow2
                      clear hgrow2 hrow2 hr HX2
                      try dsimp only
                      refine hK.out _ _ ?_ (fun hHeldbq4 => ?_)
                      · exact Kn.far_4 hHeldbq3.2.2.2.2 hl2
                      clear hK K hHeldbq3
                      try clear hb
                      try simp only [Act.put, List.setIfInBounds_toArray, List.set_cons_zero, List.set_cons_succ]
                      refine wpAnyH_take (i := 6) (v := ?vbqx0x2x4x5i6) (opsS (opsS (opsS (opsS (opsS (opsS ops0)))))) (by kernel_rfl) (by kernel_rfl) (by kernel_rfl) (fun _ _ _ h => h) (Or.inl ⟨by rfl, ?ybqx0x2x4x5i6⟩) hHeldbq4 ?_
                      case ybqx0x2x4x5i6 => (intro w hSw; (try dsimp only at hSw); go_simp; try (with_reducible rfl))
                      try simp only [Act.put, List.setIfInBounds_toArray, List.set_cons_zero, List.set_cons_succ]
                      refine wpAnyH_done (by kernel_rfl) ?_ _
                      clear hHeldbq4
                      have hlt2 := Lib.hid hl2
                      clear hl2
                      replace HL := Lib.hid (HL.out.trans (hlt2.out.mono HL.out.size))
                      replace H1 := Lib.hid (H1.out.more_below hlt2.out)
                      obtain ⟨A9, c9, rfl, hR9⟩ := hr2.out.reads
                      have H9 := Lib.hid hR9
                      clear hR9 hr2 hlt2
                      go_wp2_with fail
                      refine (HM2.out w2 A9 c9 H9.out (Lib.hid (HLt.out.next HL.out))).mono ?_
                      rintro e w3 ⟨v3, rfl, hrow, hb⟩
                      obtain ⟨A3, c3, rfl, hR3⟩ := hrow.reads
                      have H3 := Lib.hid hR3
                      clear hrow hR3
                      replace H1 := Lib.hid (H1.out.more_below hb)
                      replace HL := Lib.hid (HL.out.trans (hb.mono HL.out.size))
                      clear hb
                      go_wp2_with fail
                      refine (HM1.out w3 H1.out (Lib.hid (HLt.out.next HL.out))).mono ?_
                      rintro e w4 ⟨v4, rfl, hrow, hb⟩
                      obtain ⟨A4, c4, rfl, hR4⟩ := hrow.reads
                      have H4 := Lib.hid hR4
                      clear hrow hR4
                      replace H1 := Lib.hid (H1.out.more_below hb)
                      replace H3 := Lib.hid (H3.out.more_below hb)
                      replace HL := Lib.hid (HL.out.trans (hb.mono HL.out.size))
                      clear hb
                      go_wp2_with fail
                      refine (rsame_any w4 A3 A4 c3 c4 ms ms (by omega) (by omega) H3.out H4.out).mono ?_
                      rw [show decide (ms = ms) = true by simp]
                      rintro e w5 ⟨rfl, hb⟩
                      replace H1 := Lib.hid (H1.out.more_below hb)
                      replace HL := Lib.hid (HL.out.trans (hb.mono HL.out.size))
                      clear hb
                      go_wp2_with fail
                      refine (awake_any _ (Lib.hid (HLt.out.next HL.out))).mono ?_
                      rintro e w9 ⟨rfl, hb⟩
                      replace HL := Lib.hid (HL.out.trans (hb.mono HL.out.size))
                      clear hb
                      go_wp2
                      go_ret
                      exact ⟨rfl, HL.out⟩
                    exact AllReadyH.nil
                  exact AllReadyH.nil
                refine AllReadyH.cons (opsS (opsS (opsS (opsS ops0)))) (fun K hK => ?_) ?_
                · go_simp
                  have HX2 := Blk.new (wt.drew.alloc (.cells #[] 46)) 46 #[.string kk, .int .i64 n, .string b, .string v]
                  rw [show (wt.drew.alloc (.cells #[] 46)).heap.size = wt.heap.size + 1 by simp] at HX2
                  replace HX2 := Lib.hid HX2
                  replace hr := Lib.hid (hr.out.alloc (.cells #[.string kk, .int .i64 n, .string b, .string v] 46))
                  try dsimp only
                  refine hK.out _ _ ?_ (fun hHeldbq2 => ?_)
                  · exact Kn.alloc_4 hHeldbq1.2.2.2.2 _
                  clear hK K hHeldbq1
                  try clear hb
                  try simp only [Act.put, List.setIfInBounds_toArray, List.set_cons_zero, List.set_cons_succ]
                  refine wpAnyH_ready (rs := [2]) (by kernel_rfl) (by simp) ?_
                  refine AllReadyH.cons (opsS (opsS ops0)) (fun K hK => ?_) ?_
                  · skip
                    refine step_append_rows _ rfl _ _ 22 rfl wt.heap.size 46 i0 _ 4 56 Tryd.underlying22 hi0 hz0 hz1 hz2 rfl (by decide) (.slice (some ⟨wt.heap.size, 0, none⟩) 0 0) [] rfl hr.out _ _ _ xs rfl (H1.out.below hHeldbq2.2.2.2.2.out.low) (fun y _ => rgy.one_E y) (by unfold maxLen; simp; omega) (by simp; omega) (hHeldbq2.2.2.2.2.out.low.size) ?_
                    intro v1 w1 hrow1 hgrow1
                    have hl1 := low_grown hHeldbq2.2.2.2.2.out.low (Nat.le_refl _) (hHeldbq2.2.2.2.2.out.low.size) hr.out hgrow1
                    replace HX2 := Lib.hid (HX2.out.grown hgrow1 (by simp [Value.ownBlock]))
                    have hr := Lib.hid hrow1
                    clear hgrow1 hrow1
                    try dsimp only
                    refine hK.out _ _ ?_ (fun hHeldbq3 => ?_)
                    · exact Kn.far_4 hHeldbq2.2.2.2.2 hl1
                    clear hK K hHeldbq2
                    try clear hb
                    try simp only [Act.put, List.setIfInBounds_toArray, List.set_cons_zero, List.set_cons_succ]
                    refine wpAnyH_ready (rs := [5]) (by kernel_rfl) (by simp) ?_
                    refine AllReadyH.cons (opsS (opsS (opsS (opsS (opsS ops0))))) (fun K hK => ?_) ?_
                    · skip
                      refine step_append_row _ rfl _ _ 22 rfl wt.heap.size 46 i0 _ 4 56 Tryd.underlying22 hi0 hz0 hz1 hz2 rfl (by decide) _ _ rfl hr.out En.len _ ⟨kk, n, b, v⟩ rfl (blk_cells (l := En.cells ⟨kk, n, b, v⟩) HX2.out) (rgy.one_E _) HX2.out.lt (by unfold maxLen; simp; omega) (by simp; omega) (hHeldbq3.2.2.2.2.out.low.size) ?_
                      intro v2 w2 hrow2 hgrow2
                      have hl2 := low_grown hHeldbq3.2.2.2.2.out.low (Nat.le_refl _) (hHeldbq3.2.2.2.2.out.low.size) hr.out hgrow2
                      rw [hzz.out] at hrow2
                      have hr2 := Lib.hid hrow2
                      clear hgrow2 hrow2 hr HX2
                      try dsimp only
                      refine hK.out _ _ ?_ (fun hHeldbq4 => ?_)
                      · exact Kn.far_4 hHeldbq3.2.2.2.2 hl2
                      clear hK K hHeldbq3
                      try clear hb
                      try simp only [Act.put, List.setIfInBounds_toArray, List.set_cons_zero, List.set_cons_succ]
                      refine wpAnyH_take (i := 6) (v := ?vbqx0x4x2x5i6) (opsS (opsS (opsS (opsS (opsS (opsS ops0)))))) (by kernel_rfl) (by kernel_rfl) (by kernel_rfl) (fun _ _ _ h => h) (Or.inl ⟨by rfl, ?ybqx0x4x2x5i6⟩) hHeldbq4 ?_
                      case ybqx0x4x2x5i6 => (intro w hSw; (try dsimp only at hSw); go_simp; try (with_reducible rfl))
                      try simp only [Act.put, List.setIfInBounds_toArray, List.set_cons_zero, List.set_cons_succ]
                      refine wpAnyH_done (by kernel_rfl) ?_ _
                      clear hHeldbq4
                      have hlt2 := Lib.hid hl2
                      clear hl2
                      replace HL := Lib.hid (HL.out.trans (hlt2.out.mono HL.out.size))
                      replace H1 := Lib.hid (H1.out.more_below hlt2.out)
                      obtain ⟨A9, c9, rfl, hR9⟩ := hr2.out.reads
                      have H9 := Lib.hid hR9
                      clear hR9 hr2 hlt2
                      go_wp2_with fail
                      refine (HM2.out w2 A9 c9 H9.out (Lib.hid (HLt.out.next HL.out))).mono ?_
                      rintro e w3 ⟨v3, rfl, hrow, hb⟩
                      obtain ⟨A3, c3, rfl, hR3⟩ := hrow.reads
                      have H3 := Lib.hid hR3
                      clear hrow hR3
                      replace H1 := Lib.hid (H1.out.more_below hb)
                      replace HL := Lib.hid (HL.out.trans (hb.mono HL.out.size))
                      clear hb
                      go_wp2_with fail
                      refine (HM1.out w3 H1.out (Lib.hid (HLt.out.next HL.out))).mono ?_
                      rintro e w4 ⟨v4, rfl, hrow, hb⟩
                      obtain ⟨A4, c4, rfl, hR4⟩ := hrow.reads
                      have H4 := Lib.hid hR4
                      clear hrow hR4
                      replace H1 := Lib.hid (H1.out.more_below hb)
                      replace H3 := Lib.hid (H3.out.more_below hb)
                      replace HL := Lib.hid (HL.out.trans (hb.mono HL.out.size))
                      clear hb
                      go_wp2_with fail
                      refine (rsame_any w4 A3 A4 c3 c4 ms ms (by omega) (by omega) H3.out H4.out).mono ?_
                      rw [show decide (ms = ms) = true by simp]
                      rintro e w5 ⟨rfl, hb⟩
                      replace H1 := Lib.hid (H1.out.more_below hb)
                      replace HL := Lib.hid (HL.out.trans (hb.mono HL.out.size))
                      clear hb
                      go_wp2_with fail
                      refine (awake_any _ (Lib.hid (HLt.out.next HL.out))).mono ?_
                      rintro e w9 ⟨rfl, hb⟩
                      replace HL := Lib.hid (HL.out.trans (hb.mono HL.out.size))
                      clear hb
                      go_wp2
                      go_ret
                      exact ⟨rfl, HL.out⟩
                    exact AllReadyH.nil
                  exact AllReadyH.nil
                exact AllReadyH.nil
              refine AllReadyH.cons (opsS (opsS (opsS (opsS ops0)))) (fun K hK => ?_) ?_
              · go_simp
                have HX2 : Hid (Blk (wt.drew.alloc (.cells #[.string kk, .int .i64 n, .string b, .string v] 46)) wt.heap.size 46 #[.string kk, .int .i64 n, .string b, .string v]) := Blk.new wt.drew 46 #[.string kk, .int .i64 n, .string b, .string v]
                try dsimp only
                refine hK.out _ _ ?_ (fun hHeldbq1 => ?_)
                · exact Kn.alloc_4 hHeldbq0.2.2.2.2 _
                clear hK K hHeldbq0
                try clear hb
                try simp only [Act.put, List.setIfInBounds_toArray, List.set_cons_zero, List.set_cons_succ]
                refine wpAnyH_ready (rs := [0]) (by kernel_rfl) (by simp) ?_
                refine AllReadyH.cons ops0 (fun K hK => ?_) ?_
                · go_simp
                  have hB0 := Blk.new (wt.drew.alloc (.cells #[.string kk, .int .i64 n, .string b, .string v] 46)) 46 #[]
                  rw [show (wt.drew.alloc (.cells #[.string kk, .int .i64 n, .string b, .string v] 46)).heap.size = wt.heap.size + 1 by simp] at hB0
                  have hr : Hid (Row ((wt.drew.alloc (.cells #[.string kk, .int .i64 n, .string b, .string v] 46)).alloc (.cells #[] 46)) wt.heap.size 46 4 En.cells (.slice (some ⟨wt.heap.size + 1, 0, none⟩) 0 0) []) := RowN.of (xs := ([] : List En)) (f := En.cells) (size := 4) En.len (Nat.le_succ _) (Nat.le_refl _) (by decide) hB0 rfl rfl
                  clear hB0
                  replace HX2 := Lib.hid (HX2.out.alloc (.cells #[] 46))
                  try dsimp only
                  refine hK.out _ _ ?_ (fun hHeldbq2 => ?_)
                  · exact Kn.alloc_4 hHeldbq1.2.2.2.2 _
                  clear hK K hHeldbq1
                  try clear hb
                  try simp only [Act.put, List.setIfInBounds_toArray, List.set_cons_zero, List.set_cons_succ]
                  refine wpAnyH_ready (rs := [2]) (by kernel_rfl) (by simp) ?_
                  refine AllReadyH.cons (opsS (opsS ops0)) (fun K hK => ?_) ?_
                  · skip
                    refine step_append_rows _ rfl _ _ 22 rfl wt.heap.size 46 i0 _ 4 56 Tryd.underlying22 hi0 hz0 hz1 hz2 rfl (by decide) (.slice (some ⟨wt.heap.size + 1, 0, none⟩) 0 0) [] rfl hr.out _ _ _ xs rfl (H1.out.below hHeldbq2.2.2.2.2.out.low) (fun y _ => rgy.one_E y) (by unfold maxLen; simp; omega) (by simp; omega) (hHeldbq2.2.2.2.2.out.low.size) ?_
                    intro v1 w1 hrow1 hgrow1
                    have hl1 := low_grown hHeldbq2.2.2.2.2.out.low (Nat.le_refl _) (hHeldbq2.2.2.2.2.out.low.size) hr.out hgrow1
                    replace HX2 := Lib.hid (HX2.out.grown hgrow1 (by simp [Value.ownBlock]))
                    have hr := Lib.hid hrow1
                    clear hgrow1 hrow1
                    try dsimp only
                    refine hK.out _ _ ?_ (fun hHeldbq3 => ?_)
                    · exact Kn.far_4 hHeldbq2.2.2.2.2 hl1
                    clear hK K hHeldbq2
                    try clear hb
                    try simp only [Act.put, List.setIfInBounds_toArray, List.set_cons_zero, List.set_cons_succ]
                    refine wpAnyH_ready (rs := [5]) (by kernel_rfl) (by simp) ?_
                    refine AllReadyH.cons (opsS (opsS (opsS (opsS (opsS ops0))))) (fun K hK => ?_) ?_
                    · skip
                      refine step_append_row _ rfl _ _ 22 rfl wt.heap.size 46 i0 _ 4 56 Tryd.underlying22 hi0 hz0 hz1 hz2 rfl (by decide) _ _ rfl hr.out En.len _ ⟨kk, n, b, v⟩ rfl (blk_cells (l := En.cells ⟨kk, n, b, v⟩) HX2.out) (rgy.one_E _) HX2.out.lt (by unfold maxLen; simp; omega) (by simp; omega) (hHeldbq3.2.2.2.2.out.low.size) ?_
                      intro v2 w2 hrow2 hgrow2
                      have hl2 := low_grown hHeldbq3.2.2.2.2.out.low (Nat.le_refl _) (hHeldbq3.2.2.2.2.out.low.size) hr.out hgrow2
                      rw [hzz.out] at hrow2
                      have hr2 := Lib.hid hrow2
                      clear hgrow2 hrow2 hr HX2
                      try dsimp only
                      refine hK.out _ _ ?_ (fun hHeldbq4 => ?_)
                      · exact Kn.far_4 hHeldbq3.2.2.2.2 hl2
                      clear hK K hHeldbq3
                      try clear hb
                      try simp only [Act.put, List.setIfInBounds_toArray, List.set_cons_zero, List.set_cons_succ]
                      refine wpAnyH_take (i := 6) (v := ?vbqx4x0x2x5i6) (opsS (opsS (opsS (opsS (opsS (opsS ops0)))))) (by kernel_rfl) (by kernel_rfl) (by kernel_rfl) (fun _ _ _ h => h) (Or.inl ⟨by rfl, ?ybqx4x0x2x5i6⟩) hHeldbq4 ?_
                      case ybqx4x0x2x5i6 => (intro w hSw; (try dsimp only at hSw); go_simp; try (with_reducible rfl))
                      try simp only [Act.put, List.setIfInBounds_toArray, List.set_cons_zero, List.set_cons_succ]
                      refine wpAnyH_done (by kernel_rfl) ?_ _
                      clear hHeldbq4
                      have hlt2 := Lib.hid hl2
                      clear hl2
                      replace HL := Lib.hid (HL.out.trans (hlt2.out.mono HL.out.size))
                      replace H1 := Lib.hid (H1.out.more_below hlt2.out)
                      obtain ⟨A9, c9, rfl, hR9⟩ := hr2.out.reads
                      have H9 := Lib.hid hR9
                      clear hR9 hr2 hlt2
                      go_wp2_with fail
                      refine (HM2.out w2 A9 c9 H9.out (Lib.hid (HLt.out.next HL.out))).mono ?_
                      rintro e w3 ⟨v3, rfl, hrow, hb⟩
                      obtain ⟨A3, c3, rfl, hR3⟩ := hrow.reads
                      have H3 := Lib.hid hR3
                      clear hrow hR3
                      replace H1 := Lib.hid (H1.out.more_below hb)
                      replace HL := Lib.hid (HL.out.trans (hb.mono HL.out.size))
                      clear hb
                      go_wp2_with fail
                      refine (HM1.out w3 H1.out (Lib.hid (HLt.out.next HL.out))).mono ?_
                      rintro e w4 ⟨v4, rfl, hrow, hb⟩
                      obtain ⟨A4, c4, rfl, hR4⟩ := hrow.reads
                      have H4 := Lib.hid hR4
                      clear hrow hR4
                      replace H1 := Lib.hid (H1.out.more_below hb)
                      replace H3 := Lib.hid (H3.out.more_below hb)
                      replace HL := Lib.hid (HL.out.trans (hb.mono HL.out.size))
                      clear hb
                      go_wp2_with fail
                      refine (rsame_any w4 A3 A4 c3 c4 ms ms (by omega) (by omega) H3.out H4.out).mono ?_
                      rw [show decide (ms = ms) = true by simp]
                      rintro e w5 ⟨rfl, hb⟩
                      replace H1 := Lib.hid (H1.out.more_below hb)
                      replace HL := Lib.hid (HL.out.trans (hb.mono HL.out.size))
                      clear hb
                      go_wp2_with fail
                      refine (awake_any _ (Lib.hid (HLt.out.next HL.out))).mono ?_
                      rintro e w9 ⟨rfl, hb⟩
                      replace HL := Lib.hid (HL.out.trans (hb.mono HL.out.size))
                      clear hb
                      go_wp2
                      go_ret
                      exact ⟨rfl, HL.out⟩
                    exact AllReadyH.nil
                  exact AllReadyH.nil
                exact AllReadyH.nil
              exact AllReadyH.nil
          | true =>
            rw [memR_yes hm, hbk.out]
            rintro e w6 ⟨rfl, hb⟩
            replace HB := Lib.hid (Blk.below (Hid.out HB) hb (Hid.out HB).lt)
            replace HX := Lib.hid (Blk.below (Hid.out HX) hb (Hid.out HX).lt)
            replace H1 := Lib.hid ((Hid.out H1).more_below hb)
            replace HL := Lib.hid ((Hid.out HL).trans (hb.mono (Hid.out HL).size))
            clear hb
            have hb := below_lit w6 (.cells #[.string mn, .string mr, .string mz, .bool mu] 26)
            replace HB := Lib.hid (Blk.below (Hid.out HB) hb (Hid.out HB).lt)
            replace HX := Lib.hid (Blk.below (Hid.out HX) hb (Hid.out HX).lt)
            replace H1 := Lib.hid ((Hid.out H1).more_below hb)
            replace HL := Lib.hid ((Hid.out HL).trans (hb.mono (Hid.out HL).size))
            clear hb
            clear hm hbk HC
            have b0 : (w6.alloc (.cells #[.string mn, .string mr, .string mz, .bool mu] 26)).cell? ⟨W.heap.size, 0, none⟩ = some (.string mn) := HB.out.cell 0
            have b1 : (w6.alloc (.cells #[.string mn, .string mr, .string mz, .bool mu] 26)).cell? ⟨W.heap.size, 1, none⟩ = some (.string mr) := HB.out.cell 1
            have b2 : (w6.alloc (.cells #[.string mn, .string mr, .string mz, .bool mu] 26)).cell? ⟨W.heap.size, 2, none⟩ = some (.string mz) := HB.out.cell 2
            have b3 : (w6.alloc (.cells #[.string mn, .string mr, .string mz, .bool mu] 26)).cell? ⟨W.heap.size, 3, none⟩ = some (.bool mu) := HB.out.cell 3
            have hq := neqM_same ⟨mn, mr, mz, mu⟩
            have x0 : (w6.alloc (.cells #[.string mn, .string mr, .string mz, .bool mu] 26)).cell? ⟨gx, 0, none⟩ = some (.string kk) := HX.out.cell 0
            by_cases z5 : 5 ≤ kk.size
            · have z5i : (5 : Int) ≤ (kk.size : Int) := by omega
              cases hpre : ((kk.extract 0 5).toList == [110, 111, 100, 101, 47]) with
              | true =>
                go_wp2_with fail
                refine (awake_any _ (Lib.hid (HLt.out.next HL.out))).mono ?_; rintro e w9 ⟨rfl, hb⟩; replace HL := Lib.hid (HL.out.trans (hb.mono HL.out.size)); clear hb; go_wp2; go_ret; exact ⟨rfl, HL.out⟩
              | false =>
                have hun := under_not hpre (r := ⟨n, b, v⟩)
                have hzz := hZ
                have HM1 := Lib.hid (fun w h hL => members_any w A ca xs (by omega) h HS.out hsh.out hL)
                have HM2 : Hid (∀ (w : World) (A : Option Addr) (c : Nat), Reads w w.heap.size 4 A zs.length (zs.flatMap En.cells) → Hid (Lets w) → Calls Tryd.prog 11 #[.slice A zs.length c] w (RowM w (mems xs))) := fun w A c h hL => by
                  have := members_any w A c zs hzl.out h hzs.out hzs2.out hL
                  rwa [hzm.out (hun)] at this
                have hml := mems_len xs
                generalize mems xs = ms at *
                clear HS hsh hzs hzs2 hzm hZ
                go_wp2_with fail
                clear x0 hpre hun b0 b1 b2 b3 hq
                generalize (w6.alloc (.cells #[.string mn, .string mr, .string mz, .bool mu] 26)) = wt at *
                have hgxl := HX.out.lt
                have test := Kn.drew_4 (Kn.of_4 (Kn.new_4 (w0 := wt) (M := wt.heap.size) (p0 := ⟨gx, 0, none⟩) (p1 := ⟨gx, 1, none⟩) (p2 := ⟨gx, 2, none⟩) (p3 := ⟨gx, 3, none⟩) (v0 := .string kk) (v1 := .int .i64 n) (v2 := .string b) (v3 := .string v) (Nat.le_refl _) (HX.out.cell 0) hgxl (HX.out.cell 1) hgxl (HX.out.cell 2) hgxl (HX.out.cell 3) hgxl)).2.2.2.2
                refine wp_region_held_drew (S := (fun w' => w'.cell? ⟨gx, 0, none⟩ = some (.string kk) ∧ w'.cell? ⟨gx, 1, none⟩ = some (.int .i64 n) ∧ w'.cell? ⟨gx, 2, none⟩ = some (.string b) ∧ w'.cell? ⟨gx, 3, none⟩ = some (.string v) ∧ Hid (Kn wt.heap.size wt [(⟨gx, 0, none⟩, .string kk), (⟨gx, 1, none⟩, .int .i64 n), (⟨gx, 2, none⟩, .string b), (⟨gx, 3, none⟩, .string v)] w'))) (by kernel_rfl) ?_ (fun hHeldcp0 => ?_)
                · exact test
                refine wpAnyH_take (i := 1) (v := ?vcp1) (opsS ops0) (by kernel_rfl) (by kernel_rfl) (by kernel_rfl) (fun _ _ _ h => h) (Or.inl ⟨by rfl, ?ycp1⟩) hHeldcp0 ?_
                case ycp1 => (intro w hSw; (try dsimp only at hSw); go_simp; try (with_reducible rfl))
                try simp only [Act.put, List.setIfInBounds_toArray, List.set_cons_zero, List.set_cons_succ]
                refine wpAnyH_take (i := 3) (v := ?vcp3) (opsS (opsS (opsS ops0))) (by kernel_rfl) (by kernel_rfl) (by kernel_rfl) (fun _ _ _ h => h) (Or.inl ⟨by rfl, ?ycp3⟩) hHeldcp0 ?_
                case ycp3 => (intro w hSw; (try dsimp only at hSw); go_simp; try (with_reducible rfl))
                try simp only [Act.put, List.setIfInBounds_toArray, List.set_cons_zero, List.set_cons_succ]
                refine wpAnyH_ready (rs := [0, 4]) (by kernel_rfl) (by simp) ?_
                refine AllReadyH.cons ops0 (fun K hK => ?_) ?_
                · go_simp
                  have hB0 : Blk (wt.drew.alloc (.cells #[] 46)) wt.heap.size 46 #[] := Blk.new wt.drew 46 #[]
                  have hr : Hid (Row (wt.drew.alloc (.cells #[] 46)) wt.heap.size 46 4 En.cells (.slice (some ⟨wt.heap.size, 0, none⟩) 0 0) []) := RowN.of (xs := ([] : List En)) (f := En.cells) (size := 4) En.len (Nat.le_refl _) (Nat.le_refl _) (by decide) hB0 rfl rfl
                  clear hB0
                  try dsimp only
                  refine hK.out _ _ ?_ (fun hHeldcp1 => ?_)
                  · exact Kn.alloc_4 hHeldcp0.2.2.2.2 _
                  clear hK K hHeldcp0
                  try clear hb
                  try simp only [Act.put, List.setIfInBounds_toArray, List.set_cons_zero, List.set_cons_succ]
                  refine wpAnyH_ready (rs := [2, 4]) (by kernel_rfl) (by simp) ?_
                  refine AllReadyH.cons (opsS (opsS ops0)) (fun K hK => ?_) ?_
                  · skip
                    refine step_append_rows _ rfl _ _ 22 rfl wt.heap.size 46 i0 _ 4 56 Tryd.underlying22 hi0 hz0 hz1 hz2 rfl (by decide) (.slice (some ⟨wt.heap.size, 0, none⟩) 0 0) [] rfl hr.out _ _ _ xs rfl (H1.out.below hHeldcp1.2.2.2.2.out.low) (fun y _ => rgy.one_E y) (by unfold maxLen; simp; omega) (by simp; omega) (hHeldcp1.2.2.2.2.out.low.size) ?_
                    intro v1 w1 hrow1 hgrow1
                    have hl1 := low_grown hHeldcp1.2.2.2.2.out.low (Nat.le_refl _) (hHeldcp1.2.2.2.2.out.low.size) hr.out hgrow1
                    have hr := Lib.hid hrow1
                    clear hgrow1 hrow1
                    try dsimp only
                    refine hK.out _ _ ?_ (fun hHeldcp2 => ?_)
                    · exact Kn.far_4 hHeldcp1.2.2.2.2 hl1
                    clear hK K hHeldcp1
                    try clear hb
                    try simp only [Act.put, List.setIfInBounds_toArray, List.set_cons_zero, List.set_cons_succ]
                    refine wpAnyH_ready (rs := [4]) (by kernel_rfl) (by simp) ?_
                    refine AllReadyH.cons (opsS (opsS (opsS (opsS ops0)))) (fun K hK => ?_) ?_
                    · go_simp
                      have HX2 := Lib.hid (Blk.new w1 46 #[.string kk, .int .i64 n, .string b, .string v])
                      replace hr := Lib.hid (hr.out.alloc (.cells #[.string kk, .int .i64 n, .string b, .string v] 46))
                      try dsimp only
                      refine hK.out _ _ ?_ (fun hHeldcp3 => ?_)
                      · exact Kn.alloc_4 hHeldcp2.2.2.2.2 _
                      clear hK K hHeldcp2
                      try clear hb
                      try simp only [Act.put, List.setIfInBounds_toArray, List.set_cons_zero, List.set_cons_succ]
                      refine wpAnyH_ready (rs := [5]) (by kernel_rfl) (by simp) ?_
                      refine AllReadyH.cons (opsS (opsS (opsS (opsS (opsS ops0))))) (fun K hK => ?_) ?_
                      · skip
                        refine step_append_row _ rfl _ _ 22 rfl wt.heap.size 46 i0 _ 4 56 Tryd.underlying22 hi0 hz0 hz1 hz2 rfl (by decide) _ _ rfl hr.out En.len _ ⟨kk, n, b, v⟩ rfl (blk_cells (l := En.cells ⟨kk, n, b, v⟩) HX2.out) (rgy.one_E _) HX2.out.lt (by unfold maxLen; simp; omega) (by simp; omega) (hHeldcp3.2.2.2.2.out.low.size) ?_
                        intro v2 w2 hrow2 hgrow2
                        have hl2 := low_grown hHeldcp3.2.2.2.2.out.low (Nat.le_refl _) (hHeldcp3.2.2.2.2.out.low.size) hr.out hgrow2
                        rw [hzz.out] at hrow2
                        have hr2 := Lib.hid hrow2
                        clear hgrow2 hrow2 hr HX2
                        try dsimp only
                        refine hK.out _ _ ?_ (fun hHeldcp4 => ?_)
                        · exact Kn.far_4 hHeldcp3.2.2.2.2 hl2
                        clear hK K hHeldcp3
                        try clear hb
                        try simp only [Act.put, List.setIfInBounds_toArray, List.set_cons_zero, List.set_cons_succ]
                        refine wpAnyH_take (i := 6) (v := ?vcpx0x2x4x5i6) (opsS (opsS (opsS (opsS (opsS (opsS ops0)))))) (by kernel_rfl) (by kernel_rfl) (by kernel_rfl) (fun _ _ _ h => h) (Or.inl ⟨by rfl, ?ycpx0x2x4x5i6⟩) hHeldcp4 ?_
                        case ycpx0x2x4x5i6 => (intro w hSw; (try dsimp only at hSw); go_simp; try (with_reducible rfl))
                        try simp only [Act.put, List.setIfInBounds_toArray, List.set_cons_zero, List.set_cons_succ]
                        refine wpAnyH_done (by kernel_rfl) ?_ _
                        clear hHeldcp4
                        have hlt2 := Lib.hid hl2
                        clear hl2
                        replace HL := Lib.hid (HL.out.trans (hlt2.out.mono HL.out.size))
                        replace H1 := Lib.hid (H1.out.more_below hlt2.out)
                        obtain ⟨A9, c9, rfl, hR9⟩ := hr2.out.reads
                        have H9 := Lib.hid hR9
                        clear hR9 hr2 hlt2
                        go_wp2_with fail
                        refine (HM2.out w2 A9 c9 H9.out (Lib.hid (HLt.out.next HL.out))).mono ?_
                        rintro e w3 ⟨v3, rfl, hrow, hb⟩
                        obtain ⟨A3, c3, rfl, hR3⟩ := hrow.reads
                        have H3 := Lib.hid hR3
                        clear hrow hR3
                        replace H1 := Lib.hid (H1.out.more_below hb)
                        replace HL := Lib.hid (HL.out.trans (hb.mono HL.out.size))
                        clear hb
                        go_wp2_with fail
                        refine (HM1.out w3 H1.out (Lib.hid (HLt.out.next HL.out))).mono ?_
                        rintro e w4 ⟨v4, rfl, hrow, hb⟩
                        obtain ⟨A4, c4, rfl, hR4⟩ := hrow.reads
                        have H4 := Lib.hid hR4
                        clear hrow hR4
                        replace H1 := Lib.hid (H1.out.more_below hb)
                        replace H3 := Lib.hid (H3.out.more_below hb)
                        replace HL := Lib.hid (HL.out.trans (hb.mono HL.out.size))
                        clear hb
                        go_wp2_with fail
                        refine (rsame_any w4 A3 A4 c3 c4 ms ms (by omega) (by omega) H3.out H4.out).mono ?_
                        rw [show decide (ms = ms) = true by simp]
                        rintro e w5 ⟨rfl, hb⟩
                        replace H1 := Lib.hid (H1.out.more_below hb)
                        replace HL := Lib.hid (HL.out.trans (hb.mono HL.out.size))
                        clear hb
                        go_wp2_with fail
                        refine (awake_any _ (Lib.hid (HLt.out.next HL.out))).mono ?_
                        rintro e w9 ⟨rfl, hb⟩
                        replace HL := Lib.hid (HL.out.trans (hb.mono HL.out.size))
                        clear hb
                        go_wp2
                        go_ret
                        exact ⟨rfl, HL.out⟩
                      exact AllReadyH.nil
                    exact AllReadyH.nil
                  refine AllReadyH.cons (opsS (opsS (opsS (opsS ops0)))) (fun K hK => ?_) ?_
                  · go_simp
                    have HX2 := Blk.new (wt.drew.alloc (.cells #[] 46)) 46 #[.string kk, .int .i64 n, .string b, .string v]
                    rw [show (wt.drew.alloc (.cells #[] 46)).heap.size = wt.heap.size + 1 by simp] at HX2
                    replace HX2 := Lib.hid HX2
                    replace hr := Lib.hid (hr.out.alloc (.cells #[.string kk, .int .i64 n, .string b, .string v] 46))
                    try dsimp only
                    refine hK.out _ _ ?_ (fun hHeldcp2 => ?_)
                    · exact Kn.alloc_4 hHeldcp1.2.2.2.2 _
                    clear hK K hHeldcp1
                    try clear hb
                    try simp only [Act.put, List.setIfInBounds_toArray, List.set_cons_zero, List.set_cons_succ]
                    refine wpAnyH_ready (rs := [2]) (by kernel_rfl) (by simp) ?_
                    refine AllReadyH.cons (opsS (opsS ops0)) (fun K hK => ?_) ?_
                    · skip
                      refine step_append_rows _ rfl _ _ 22 rfl wt.heap.size 46 i0 _ 4 56 Tryd.underlying22 hi0 hz0 hz1 hz2 rfl (by decide) (.slice (some ⟨wt.heap.size, 0, none⟩) 0 0) [] rfl hr.out _ _ _ xs rfl (H1.out.below hHeldcp2.2.2.2.2.out.low) (fun y _ => rgy.one_E y) (by unfold maxLen; simp; omega) (by simp; omega) (hHeldcp2.2.2.2.2.out.low.size) ?_
                      intro v1 w1 hrow1 hgrow1
                      have hl1 := low_grown hHeldcp2.2.2.2.2.out.low (Nat.le_refl _) (hHeldcp2.2.2.2.2.out.low.size) hr.out hgrow1
                      replace HX2 := Lib.hid (HX2.out.grown hgrow1 (by simp [Value.ownBlock]))
                      have hr := Lib.hid hrow1
                      clear hgrow1 hrow1
                      try dsimp only
                      refine hK.out _ _ ?_ (fun hHeldcp3 => ?_)
                      · exact Kn.far_4 hHeldcp2.2.2.2.2 hl1
                      clear hK K hHeldcp2
                      try clear hb
                      try simp only [Act.put, List.setIfInBounds_toArray, List.set_cons_zero, List.set_cons_succ]
                      refine wpAnyH_ready (rs := [5]) (by kernel_rfl) (by simp) ?_
                      refine AllReadyH.cons (opsS (opsS (opsS (opsS (opsS ops0))))) (fun K hK => ?_) ?_
                      · skip
                        refine step_append_row _ rfl _ _ 22 rfl wt.heap.size 46 i0 _ 4 56 Tryd.underlying22 hi0 hz0 hz1 hz2 rfl (by decide) _ _ rfl hr.out En.len _ ⟨kk, n, b, v⟩ rfl (blk_cells (l := En.cells ⟨kk, n, b, v⟩) HX2.out) (rgy.one_E _) HX2.out.lt (by unfold maxLen; simp; omega) (by simp; omega) (hHeldcp3.2.2.2.2.out.low.size) ?_
                        intro v2 w2 hrow2 hgrow2
                        have hl2 := low_grown hHeldcp3.2.2.2.2.out.low (Nat.le_refl _) (hHeldcp3.2.2.2.2.out.low.size) hr.out hgrow2
                        rw [hzz.out] at hrow2
                        have hr2 := Lib.hid hrow2
                        clear hgrow2 hrow2 hr HX2
                        try dsimp only
                        refine hK.out _ _ ?_ (fun hHeldcp4 => ?_)
                        · exact Kn.far_4 hHeldcp3.2.2.2.2 hl2
                        clear hK K hHeldcp3
                        try clear hb
                        try simp only [Act.put, List.setIfInBounds_toArray, List.set_cons_zero, List.set_cons_succ]
                        refine wpAnyH_take (i := 6) (v := ?vcpx0x4x2x5i6) (opsS (opsS (opsS (opsS (opsS (opsS ops0)))))) (by kernel_rfl) (by kernel_rfl) (by kernel_rfl) (fun _ _ _ h => h) (Or.inl ⟨by rfl, ?ycpx0x4x2x5i6⟩) hHeldcp4 ?_
                        case ycpx0x4x2x5i6 => (intro w hSw; (try dsimp only at hSw); go_simp; try (with_reducible rfl))
                        try simp only [Act.put, List.setIfInBounds_toArray, List.set_cons_zero, List.set_cons_succ]
                        refine wpAnyH_done (by kernel_rfl) ?_ _
                        clear hHeldcp4
                        have hlt2 := Lib.hid hl2
                        clear hl2
                        replace HL := Lib.hid (HL.out.trans (hlt2.out.mono HL.out.size))
                        replace H1 := Lib.hid (H1.out.more_below hlt2.out)
                        obtain ⟨A9, c9, rfl, hR9⟩ := hr2.out.reads
                        have H9 := Lib.hid hR9
                        clear hR9 hr2 hlt2
                        go_wp2_with fail
                        refine (HM2.out w2 A9 c9 H9.out (Lib.hid (HLt.out.next HL.out))).mono ?_
                        rintro e w3 ⟨v3, rfl, hrow, hb⟩
                        obtain ⟨A3, c3, rfl, hR3⟩ := hrow.reads
                        have H3 := Lib.hid hR3
                        clear hrow hR3
                        replace H1 := Lib.hid (H1.out.more_below hb)
                        replace HL := Lib.hid (HL.out.trans (hb.mono HL.out.size))
                        clear hb
                        go_wp2_with fail
                        refine (HM1.out w3 H1.out (Lib.hid (HLt.out.next HL.out))).mono ?_
                        rintro e w4 ⟨v4, rfl, hrow, hb⟩
                        obtain ⟨A4, c4, rfl, hR4⟩ := hrow.reads
                        have H4 := Lib.hid hR4
                        clear hrow hR4
                        replace H1 := Lib.hid (H1.out.more_below hb)
                        replace H3 := Lib.hid (H3.out.more_below hb)
                        replace HL := Lib.hid (HL.out.trans (hb.mono HL.out.size))
                        clear hb
                        go_wp2_with fail
                        refine (rsame_any w4 A3 A4 c3 c4 ms ms (by omega) (by omega) H3.out H4.out).mono ?_
                        rw [show decide (ms = ms) = true by simp]
                        rintro e w5 ⟨rfl, hb⟩
                        replace H1 := Lib.hid (H1.out.more_below hb)
                        replace HL := Lib.hid (HL.out.trans (hb.mono HL.out.size))
                        clear hb
                        go_wp2_with fail
                        refine (awake_any _ (Lib.hid (HLt.out.next HL.out))).mono ?_
                        rintro e w9 ⟨rfl, hb⟩
                        replace HL := Lib.hid (HL.out.trans (hb.mono HL.out.size))
                        clear hb
                        go_wp2
                        go_ret
                        exact ⟨rfl, HL.out⟩
                      exact AllReadyH.nil
                    exact AllReadyH.nil
                  exact AllReadyH.nil
                refine AllReadyH.cons (opsS (opsS (opsS (opsS ops0)))) (fun K hK => ?_) ?_
                · go_simp
                  have HX2 : Hid (Blk (wt.drew.alloc (.cells #[.string kk, .int .i64 n, .string b, .string v] 46)) wt.heap.size 46 #[.string kk, .int .i64 n, .string b, .string v]) := Blk.new wt.drew 46 #[.string kk, .int .i64 n, .string b, .string v]
                  try dsimp only
                  refine hK.out _ _ ?_ (fun hHeldcp1 => ?_)
                  · exact Kn.alloc_4 hHeldcp0.2.2.2.2 _
                  clear hK K hHeldcp0
                  try clear hb
                  try simp only [Act.put, List.setIfInBounds_toArray, List.set_cons_zero, List.set_cons_succ]
                  refine wpAnyH_ready (rs := [0]) (by kernel_rfl) (by simp) ?_
                  refine AllReadyH.cons ops0 (fun K hK => ?_) ?_
                  · go_simp
                    have hB0 := Blk.new (wt.drew.alloc (.cells #[.string kk, .int .i64 n, .string b, .string v] 46)) 46 #[]
                    rw [show (wt.drew.alloc (.cells #[.string kk, .int .i64 n, .string b, .string v] 46)).heap.size = wt.heap.size + 1 by simp] at hB0
                    have hr : Hid (Row ((wt.drew.alloc (.cells #[.string kk, .int .i64 n, .string b, .string v] 46)).alloc (.cells #[] 46)) wt.heap.size 46 4 En.cells (.slice (some ⟨wt.heap.size + 1, 0, none⟩) 0 0) []) := RowN.of (xs := ([] : List En)) (f := En.cells) (size := 4) En.len (Nat.le_succ _) (Nat.le_refl _) (by decide) hB0 rfl rfl
                    clear hB0
                    replace HX2 := Lib.hid (HX2.out.alloc (.cells #[] 46))
                    try dsimp only
                    refine hK.out _ _ ?_ (fun hHeldcp2 => ?_)
                    · exact Kn.alloc_4 hHeldcp1.2.2.2.2 _
                    clear hK K hHeldcp1
                    try clear hb
                    try simp only [Act.put, List.setIfInBounds_toArray, List.set_cons_zero, List.set_cons_succ]
                    refine wpAnyH_ready (rs := [2]) (by kernel_rfl) (by simp) ?_
                    refine AllReadyH.cons (opsS (opsS ops0)) (fun K hK => ?_) ?_
                    · skip
                      refine step_append_rows _ rfl _ _ 22 rfl wt.heap.size 46 i0 _ 4 56 Tryd.underlying22 hi0 hz0 hz1 hz2 rfl (by decide) (.slice (some ⟨wt.heap.size + 1, 0, none⟩) 0 0) [] rfl hr.out _ _ _ xs rfl (H1.out.below hHeldcp2.2.2.2.2.out.low) (fun y _ => rgy.one_E y) (by unfold maxLen; simp; omega) (by simp; omega) (hHeldcp2.2.2.2.2.out.low.size) ?_
                      intro v1 w1 hrow1 hgrow1
                      have hl1 := low_grown hHeldcp2.2.2.2.2.out.low (Nat.le_refl _) (hHeldcp2.2.2.2.2.out.low.size) hr.out hgrow1
                      replace HX2 := Lib.hid (HX2.out.grown hgrow1 (by simp [Value.ownBlock]))
                      have hr := Lib.hid hrow1
                      clear hgrow1 hrow1
                      try dsimp only
                      refine hK.out _ _ ?_ (fun hHeldcp3 => ?_)
                      · exact Kn.far_4 hHeldcp2.2.2.2.2 hl1
                      clear hK K hHeldcp2
                      try clear hb
                      try simp only [Act.put, List.setIfInBounds_toArray, List.set_cons_zero, List.set_cons_succ]
                      refine wpAnyH_ready (rs := [5]) (by kernel_rfl) (by simp) ?_
                      refine AllReadyH.cons (opsS (opsS (opsS (opsS (opsS ops0))))) (fun K hK => ?_) ?_
                      · skip
                        refine step_append_row _ rfl _ _ 22 rfl wt.heap.size 46 i0 _ 4 56 Tryd.underlying22 hi0 hz0 hz1 hz2 rfl (by decide) _ _ rfl hr.out En.len _ ⟨kk, n, b, v⟩ rfl (blk_cells (l := En.cells ⟨kk, n, b, v⟩) HX2.out) (rgy.one_E _) HX2.out.lt (by unfold maxLen; simp; omega) (by simp; omega) (hHeldcp3.2.2.2.2.out.low.size) ?_
                        intro v2 w2 hrow2 hgrow2
                        have hl2 := low_grown hHeldcp3.2.2.2.2.out.low (Nat.le_refl _) (hHeldcp3.2.2.2.2.out.low.size) hr.out hgrow2
                        rw [hzz.out] at hrow2
                        have hr2 := Lib.hid hrow2
                        clear hgrow2 hrow2 hr HX2
                        try dsimp only
                        refine hK.out _ _ ?_ (fun hHeldcp4 => ?_)
                        · exact Kn.far_4 hHeldcp3.2.2.2.2 hl2
                        clear hK K hHeldcp3
                        try clear hb
                        try simp only [Act.put, List.setIfInBounds_toArray, List.set_cons_zero, List.set_cons_succ]
                        refine wpAnyH_take (i := 6) (v := ?vcpx4x0x2x5i6) (opsS (opsS (opsS (opsS (opsS (opsS ops0)))))) (by kernel_rfl) (by kernel_rfl) (by kernel_rfl) (fun _ _ _ h => h) (Or.inl ⟨by rfl, ?ycpx4x0x2x5i6⟩) hHeldcp4 ?_
                        case ycpx4x0x2x5i6 => (intro w hSw; (try dsimp only at hSw); go_simp; try (with_reducible rfl))
                        try simp only [Act.put, List.setIfInBounds_toArray, List.set_cons_zero, List.set_cons_succ]
                        refine wpAnyH_done (by kernel_rfl) ?_ _
                        clear hHeldcp4
                        have hlt2 := Lib.hid hl2
                        clear hl2
                        replace HL := Lib.hid (HL.out.trans (hlt2.out.mono HL.out.size))
                        replace H1 := Lib.hid (H1.out.more_below hlt2.out)
                        obtain ⟨A9, c9, rfl, hR9⟩ := hr2.out.reads
                        have H9 := Lib.hid hR9
                        clear hR9 hr2 hlt2
                        go_wp2_with fail
                        refine (HM2.out w2 A9 c9 H9.out (Lib.hid (HLt.out.next HL.out))).mono ?_
                        rintro e w3 ⟨v3, rfl, hrow, hb⟩
                        obtain ⟨A3, c3, rfl, hR3⟩ := hrow.reads
                        have H3 := Lib.hid hR3
                        clear hrow hR3
                        replace H1 := Lib.hid (H1.out.more_below hb)
                        replace HL := Lib.hid (HL.out.trans (hb.mono HL.out.size))
                        clear hb
                        go_wp2_with fail
                        refine (HM1.out w3 H1.out (Lib.hid (HLt.out.next HL.out))).mono ?_
                        rintro e w4 ⟨v4, rfl, hrow, hb⟩
                        obtain ⟨A4, c4, rfl, hR4⟩ := hrow.reads
                        have H4 := Lib.hid hR4
                        clear hrow hR4
                        replace H1 := Lib.hid (H1.out.more_below hb)
                        replace H3 := Lib.hid (H3.out.more_below hb)
                        replace HL := Lib.hid (HL.out.trans (hb.mono HL.out.size))
                        clear hb
                        go_wp2_with fail
                        refine (rsame_any w4 A3 A4 c3 c4 ms ms (by omega) (by omega) H3.out H4.out).mono ?_
                        rw [show decide (ms = ms) = true by simp]
                        rintro e w5 ⟨rfl, hb⟩
                        replace H1 := Lib.hid (H1.out.more_below hb)
                        replace HL := Lib.hid (HL.out.trans (hb.mono HL.out.size))
                        clear hb
                        go_wp2_with fail
                        refine (awake_any _ (Lib.hid (HLt.out.next HL.out))).mono ?_
                        rintro e w9 ⟨rfl, hb⟩
                        replace HL := Lib.hid (HL.out.trans (hb.mono HL.out.size))
                        clear hb
                        go_wp2
                        go_ret
                        exact ⟨rfl, HL.out⟩
                      exact AllReadyH.nil
                    exact AllReadyH.nil
                  exact AllReadyH.nil
                exact AllReadyH.nil
            · have hun := under_low z5 (r := ⟨n, b, v⟩)
              have hzz := hZ
              have HM1 := Lib.hid (fun w h hL => members_any w A ca xs (by omega) h HS.out hsh.out hL)
              have HM2 : Hid (∀ (w : World) (A : Option Addr) (c : Nat), Reads w w.heap.size 4 A zs.length (zs.flatMap En.cells) → Hid (Lets w) → Calls Tryd.prog 11 #[.slice A zs.length c] w (RowM w (mems xs))) := fun w A c h hL => by
                have := members_any w A c zs hzl.out h hzs.out hzs2.out hL
                rwa [hzm.out (hun)] at this
              have hml := mems_len xs
              generalize mems xs = ms at *
              clear HS hsh hzs hzs2 hzm hZ
              go_wp2_with fail
              clear x0 hun b0 b1 b2 b3 hq
              generalize (w6.alloc (.cells #[.string mn, .string mr, .string mz, .bool mu] 26)) = wt at *
              have hgxl := HX.out.lt
              have test := Kn.drew_4 (Kn.of_4 (Kn.new_4 (w0 := wt) (M := wt.heap.size) (p0 := ⟨gx, 0, none⟩) (p1 := ⟨gx, 1, none⟩) (p2 := ⟨gx, 2, none⟩) (p3 := ⟨gx, 3, none⟩) (v0 := .string kk) (v1 := .int .i64 n) (v2 := .string b) (v3 := .string v) (Nat.le_refl _) (HX.out.cell 0) hgxl (HX.out.cell 1) hgxl (HX.out.cell 2) hgxl (HX.out.cell 3) hgxl)).2.2.2.2
              refine wp_region_held_drew (S := (fun w' => w'.cell? ⟨gx, 0, none⟩ = some (.string kk) ∧ w'.cell? ⟨gx, 1, none⟩ = some (.int .i64 n) ∧ w'.cell? ⟨gx, 2, none⟩ = some (.string b) ∧ w'.cell? ⟨gx, 3, none⟩ = some (.string v) ∧ Hid (Kn wt.heap.size wt [(⟨gx, 0, none⟩, .string kk), (⟨gx, 1, none⟩, .int .i64 n), (⟨gx, 2, none⟩, .string b), (⟨gx, 3, none⟩, .string v)] w'))) (by kernel_rfl) ?_ (fun hHeldcq0 => ?_)
              · exact test
              refine wpAnyH_take (i := 1) (v := ?vcq1) (opsS ops0) (by kernel_rfl) (by kernel_rfl) (by kernel_rfl) (fun _ _ _ h => h) (Or.inl ⟨by rfl, ?ycq1⟩) hHeldcq0 ?_
              case ycq1 => (intro w hSw; (try dsimp only at hSw); go_simp; try (with_reducible rfl))
              try simp only [Act.put, List.setIfInBounds_toArray, List.set_cons_zero, List.set_cons_succ]
              refine wpAnyH_take (i := 3) (v := ?vcq3) (opsS (opsS (opsS ops0))) (by kernel_rfl) (by kernel_rfl) (by kernel_rfl) (fun _ _ _ h => h) (Or.inl ⟨by rfl, ?ycq3⟩) hHeldcq0 ?_
              case ycq3 => (intro w hSw; (try dsimp only at hSw); go_simp; try (with_reducible rfl))
              try simp only [Act.put, List.setIfInBounds_toArray, List.set_cons_zero, List.set_cons_succ]
              refine wpAnyH_ready (rs := [0, 4]) (by kernel_rfl) (by simp) ?_
              refine AllReadyH.cons ops0 (fun K hK => ?_) ?_
              · go_simp
                have hB0 : Blk (wt.drew.alloc (.cells #[] 46)) wt.heap.size 46 #[] := Blk.new wt.drew 46 #[]
                have hr : Hid (Row (wt.drew.alloc (.cells #[] 46)) wt.heap.size 46 4 En.cells (.slice (some ⟨wt.heap.size, 0, none⟩) 0 0) []) := RowN.of (xs := ([] : List En)) (f := En.cells) (size := 4) En.len (Nat.le_refl _) (Nat.le_refl _) (by decide) hB0 rfl rfl
                clear hB0
                try dsimp only
                refine hK.out _ _ ?_ (fun hHeldcq1 => ?_)
                · exact Kn.alloc_4 hHeldcq0.2.2.2.2 _
                clear hK K hHeldcq0
                try clear hb
                try simp only [Act.put, List.setIfInBounds_toArray, List.set_cons_zero, List.set_cons_succ]
                refine wpAnyH_ready (rs := [2, 4]) (by kernel_rfl) (by simp) ?_
                refine AllReadyH.cons (opsS (opsS ops0)) (fun K hK => ?_) ?_
                · skip
                  refine step_append_rows _ rfl _ _ 22 rfl wt.heap.size 46 i0 _ 4 56 Tryd.underlying22 hi0 hz0 hz1 hz2 rfl (by decide) (.slice (some ⟨wt.heap.size, 0, none⟩) 0 0) [] rfl hr.out _ _ _ xs rfl (H1.out.below hHeldcq1.2.2.2.2.out.low) (fun y _ => rgy.one_E y) (by unfold maxLen; simp; omega) (by simp; omega) (hHeldcq1.2.2.2.2.out.low.size) ?_
                  intro v1 w1 hrow1 hgrow1
                  have hl1 := low_grown hHeldcq1.2.2.2.2.out.low (Nat.le_refl _) (hHeldcq1.2.2.2.2.out.low.size) hr.out hgrow1
                  have hr := Lib.hid hrow1
                  clear hgrow1 hrow1
                  try dsimp only
                  refine hK.out _ _ ?_ (fun hHeldcq2 => ?_)
                  · exact Kn.far_4 hHeldcq1.2.2.2.2 hl1
                  clear hK K hHeldcq1
                  try clear hb
                  try simp only [Act.put, List.setIfInBounds_toArray, List.set_cons_zero, List.set_cons_succ]
                  refine wpAnyH_ready (rs := [4]) (by kernel_rfl) (by simp) ?_
                  refine AllReadyH.cons (opsS (opsS (opsS (opsS ops0)))) (fun K hK => ?_) ?_
                  · go_simp
                    have HX2 := Lib.hid (Blk.new w1 46 #[.string kk, .int .i64 n, .string b, .string v])
                    replace hr := Lib.hid (hr.out.alloc (.cells #[.string kk, .int .i64 n, .string b, .string v] 46))
                    try dsimp only
                    refine hK.out _ _ ?_ (fun hHeldcq3 => ?_)
                    · exact Kn.alloc_4 hHeldcq2.2.2.2.2 _
                    clear hK K hHeldcq2
                    try clear hb
                    try simp only [Act.put, List.setIfInBounds_toArray, List.set_cons_zero, List.set_cons_succ]
                    refine wpAnyH_ready (rs := [5]) (by kernel_rfl) (by simp) ?_
                    refine AllReadyH.cons (opsS (opsS (opsS (opsS (opsS ops0))))) (fun K hK => ?_) ?_
                    · skip
                      refine step_append_row _ rfl _ _ 22 rfl wt.heap.size 46 i0 _ 4 56 Tryd.underlying22 hi0 hz0 hz1 hz2 rfl (by decide) _ _ rfl hr.out En.len _ ⟨kk, n, b, v⟩ rfl (blk_cells (l := En.cells ⟨kk, n, b, v⟩) HX2.out) (rgy.one_E _) HX2.out.lt (by unfold maxLen; simp; omega) (by simp; omega) (hHeldcq3.2.2.2.2.out.low.size) ?_
                      intro v2 w2 hrow2 hgrow2
                      have hl2 := low_grown hHeldcq3.2.2.2.2.out.low (Nat.le_refl _) (hHeldcq3.2.2.2.2.out.low.size) hr.out hgrow2
                      rw [hzz.out] at hrow2
                      have hr2 := Lib.hid hrow2
                      clear hgrow2 hrow2 hr HX2
                      try dsimp only
                      refine hK.out _ _ ?_ (fun hHeldcq4 => ?_)
                      · exact Kn.far_4 hHeldcq3.2.2.2.2 hl2
                      clear hK K hHeldcq3
                      try clear hb
                      try simp only [Act.put, List.setIfInBounds_toArray, List.set_cons_zero, List.set_cons_succ]
                      refine wpAnyH_take (i := 6) (v := ?vcqx0x2x4x5i6) (opsS (opsS (opsS (opsS (opsS (opsS ops0)))))) (by kernel_rfl) (by kernel_rfl) (by kernel_rfl) (fun _ _ _ h => h) (Or.inl ⟨by rfl, ?ycqx0x2x4x5i6⟩) hHeldcq4 ?_
                      case ycqx0x2x4x5i6 => (intro w hSw; (try dsimp only at hSw); go_simp; try (with_reducible rfl))
                      try simp only [Act.put, List.setIfInBounds_toArray, List.set_cons_zero, List.set_cons_succ]
                      refine wpAnyH_done (by kernel_rfl) ?_ _
                      clear hHeldcq4
                      have hlt2 := Lib.hid hl2
                      clear hl2
                      replace HL := Lib.hid (HL.out.trans (hlt2.out.mono HL.out.size))
                      replace H1 := Lib.hid (H1.out.more_below hlt2.out)
                      obtain ⟨A9, c9, rfl, hR9⟩ := hr2.out.reads
                      have H9 := Lib.hid hR9
                      clear hR9 hr2 hlt2
                      go_wp2_with fail
                      refine (HM2.out w2 A9 c9 H9.out (Lib.hid (HLt.out.next HL.out))).mono ?_
                      rintro e w3 ⟨v3, rfl, hrow, hb⟩
                      obtain ⟨A3, c3, rfl, hR3⟩ := hrow.reads
                      have H3 := Lib.hid hR3
                      clear hrow hR3
                      replace H1 := Lib.hid (H1.out.more_below hb)
                      replace HL := Lib.hid (HL.out.trans (hb.mono HL.out.size))
                      clear hb
                      go_wp2_with fail
                      refine (HM1.out w3 H1.out (Lib.hid (HLt.out.next HL.out))).mono ?_
                      rintro e w4 ⟨v4, rfl, hrow, hb⟩
                      obtain ⟨A4, c4, rfl, hR4⟩ := hrow.reads
                      have H4 := Lib.hid hR4
                      clear hrow hR4
                      replace H1 := Lib.hid (H1.out.more_below hb)
                      replace H3 := Lib.hid (H3.out.more_below hb)
                      replace HL := Lib.hid (HL.out.trans (hb.mono HL.out.size))
                      clear hb
                      go_wp2_with fail
                      refine (rsame_any w4 A3 A4 c3 c4 ms ms (by omega) (by omega) H3.out H4.out).mono ?_
                      rw [show decide (ms = ms) = true by simp]
                      rintro e w5 ⟨rfl, hb⟩
                      replace H1 := Lib.hid (H1.out.more_below hb)
                      replace HL := Lib.hid (HL.out.trans (hb.mono HL.out.size))
                      clear hb
                      go_wp2_with fail
                      refine (awake_any _ (Lib.hid (HLt.out.next HL.out))).mono ?_
                      rintro e w9 ⟨rfl, hb⟩
                      replace HL := Lib.hid (HL.out.trans (hb.mono HL.out.size))
                      clear hb
                      go_wp2
                      go_ret
                      exact ⟨rfl, HL.out⟩
                    exact AllReadyH.nil
                  exact AllReadyH.nil
                refine AllReadyH.cons (opsS (opsS (opsS (opsS ops0)))) (fun K hK => ?_) ?_
                · go_simp
                  have HX2 := Blk.new (wt.drew.alloc (.cells #[] 46)) 46 #[.string kk, .int .i64 n, .string b, .string v]
                  rw [show (wt.drew.alloc (.cells #[] 46)).heap.size = wt.heap.size + 1 by simp] at HX2
                  replace HX2 := Lib.hid HX2
                  replace hr := Lib.hid (hr.out.alloc (.cells #[.string kk, .int .i64 n, .string b, .string v] 46))
                  try dsimp only
                  refine hK.out _ _ ?_ (fun hHeldcq2 => ?_)
                  · exact Kn.alloc_4 hHeldcq1.2.2.2.2 _
                  clear hK K hHeldcq1
                  try clear hb
                  try simp only [Act.put, List.setIfInBounds_toArray, List.set_cons_zero, List.set_cons_succ]
                  refine wpAnyH_ready (rs := [2]) (by kernel_rfl) (by simp) ?_
                  refine AllReadyH.cons (opsS (opsS ops0)) (fun K hK => ?_) ?_
                  · skip
                    refine step_append_rows _ rfl _ _ 22 rfl wt.heap.size 46 i0 _ 4 56 Tryd.underlying22 hi0 hz0 hz1 hz2 rfl (by decide) (.slice (some ⟨wt.heap.size, 0, none⟩) 0 0) [] rfl hr.out _ _ _ xs rfl (H1.out.below hHeldcq2.2.2.2.2.out.low) (fun y _ => rgy.one_E y) (by unfold maxLen; simp; omega) (by simp; omega) (hHeldcq2.2.2.2.2.out.low.size) ?_
                    intro v1 w1 hrow1 hgrow1
                    have hl1 := low_grown hHeldcq2.2.2.2.2.out.low (Nat.le_refl _) (hHeldcq2.2.2.2.2.out.low.size) hr.out hgrow1
                    replace HX2 := Lib.hid (HX2.out.grown hgrow1 (by simp [Value.ownBlock]))
                    have hr := Lib.hid hrow1
                    clear hgrow1 hrow1
                    try dsimp only
                    refine hK.out _ _ ?_ (fun hHeldcq3 => ?_)
                    · exact Kn.far_4 hHeldcq2.2.2.2.2 hl1
                    clear hK K hHeldcq2
                    try clear hb
                    try simp only [Act.put, List.setIfInBounds_toArray, List.set_cons_zero, List.set_cons_succ]
                    refine wpAnyH_ready (rs := [5]) (by kernel_rfl) (by simp) ?_
                    refine AllReadyH.cons (opsS (opsS (opsS (opsS (opsS ops0))))) (fun K hK => ?_) ?_
                    · skip
                      refine step_append_row _ rfl _ _ 22 rfl wt.heap.size 46 i0 _ 4 56 Tryd.underlying22 hi0 hz0 hz1 hz2 rfl (by decide) _ _ rfl hr.out En.len _ ⟨kk, n, b, v⟩ rfl (blk_cells (l := En.cells ⟨kk, n, b, v⟩) HX2.out) (rgy.one_E _) HX2.out.lt (by unfold maxLen; simp; omega) (by simp; omega) (hHeldcq3.2.2.2.2.out.low.size) ?_
                      intro v2 w2 hrow2 hgrow2
                      have hl2 := low_grown hHeldcq3.2.2.2.2.out.low (Nat.le_refl _) (hHeldcq3.2.2.2.2.out.low.size) hr.out hgrow2
                      rw [hzz.out] at hrow2
                      have hr2 := Lib.hid hrow2
                      clear hgrow2 hrow2 hr HX2
                      try dsimp only
                      refine hK.out _ _ ?_ (fun hHeldcq4 => ?_)
                      · exact Kn.far_4 hHeldcq3.2.2.2.2 hl2
                      clear hK K hHeldcq3
                      try clear hb
                      try simp only [Act.put, List.setIfInBounds_toArray, List.set_cons_zero, List.set_cons_succ]
                      refine wpAnyH_take (i := 6) (v := ?vcqx0x4x2x5i6) (opsS (opsS (opsS (opsS (opsS (opsS ops0)))))) (by kernel_rfl) (by kernel_rfl) (by kernel_rfl) (fun _ _ _ h => h) (Or.inl ⟨by rfl, ?ycqx0x4x2x5i6⟩) hHeldcq4 ?_
                      case ycqx0x4x2x5i6 => (intro w hSw; (try dsimp only at hSw); go_simp; try (with_reducible rfl))
                      try simp only [Act.put, List.setIfInBounds_toArray, List.set_cons_zero, List.set_cons_succ]
                      refine wpAnyH_done (by kernel_rfl) ?_ _
                      clear hHeldcq4
                      have hlt2 := Lib.hid hl2
                      clear hl2
                      replace HL := Lib.hid (HL.out.trans (hlt2.out.mono HL.out.size))
                      replace H1 := Lib.hid (H1.out.more_below hlt2.out)
                      obtain ⟨A9, c9, rfl, hR9⟩ := hr2.out.reads
                      have H9 := Lib.hid hR9
                      clear hR9 hr2 hlt2
                      go_wp2_with fail
                      refine (HM2.out w2 A9 c9 H9.out (Lib.hid (HLt.out.next HL.out))).mono ?_
                      rintro e w3 ⟨v3, rfl, hrow, hb⟩
                      obtain ⟨A3, c3, rfl, hR3⟩ := hrow.reads
                      have H3 := Lib.hid hR3
                      clear hrow hR3
                      replace H1 := Lib.hid (H1.out.more_below hb)
                      replace HL := Lib.hid (HL.out.trans (hb.mono HL.out.size))
                      clear hb
                      go_wp2_with fail
                      refine (HM1.out w3 H1.out (Lib.hid (HLt.out.next HL.out))).mono ?_
                      rintro e w4 ⟨v4, rfl, hrow, hb⟩
                      obtain ⟨A4, c4, rfl, hR4⟩ := hrow.reads
                      have H4 := Lib.hid hR4
                      clear hrow hR4
                      replace H1 := Lib.hid (H1.out.more_below hb)
                      replace H3 := Lib.hid (H3.out.more_below hb)
                      replace HL := Lib.hid (HL.out.trans (hb.mono HL.out.size))
                      clear hb
                      go_wp2_with fail
                      refine (rsame_any w4 A3 A4 c3 c4 ms ms (by omega) (by omega) H3.out H4.out).mono ?_
                      rw [show decide (ms = ms) = true by simp]
                      rintro e w5 ⟨rfl, hb⟩
                      replace H1 := Lib.hid (H1.out.more_below hb)
                      replace HL := Lib.hid (HL.out.trans (hb.mono HL.out.size))
                      clear hb
                      go_wp2_with fail
                      refine (awake_any _ (Lib.hid (HLt.out.next HL.out))).mono ?_
                      rintro e w9 ⟨rfl, hb⟩
                      replace HL := Lib.hid (HL.out.trans (hb.mono HL.out.size))
                      clear hb
                      go_wp2
                      go_ret
                      exact ⟨rfl, HL.out⟩
                    exact AllReadyH.nil
                  exact AllReadyH.nil
                exact AllReadyH.nil
              refine AllReadyH.cons (opsS (opsS (opsS (opsS ops0)))) (fun K hK => ?_) ?_
              · go_simp
                have HX2 : Hid (Blk (wt.drew.alloc (.cells #[.string kk, .int .i64 n, .string b, .string v] 46)) wt.heap.size 46 #[.string kk, .int .i64 n, .string b, .string v]) := Blk.new wt.drew 46 #[.string kk, .int .i64 n, .string b, .string v]
                try dsimp only
                refine hK.out _ _ ?_ (fun hHeldcq1 => ?_)
                · exact Kn.alloc_4 hHeldcq0.2.2.2.2 _
                clear hK K hHeldcq0
                try clear hb
                try simp only [Act.put, List.setIfInBounds_toArray, List.set_cons_zero, List.set_cons_succ]
                refine wpAnyH_ready (rs := [0]) (by kernel_rfl) (by simp) ?_
                refine AllReadyH.cons ops0 (fun K hK => ?_) ?_
                · go_simp
                  have hB0 := Blk.new (wt.drew.alloc (.cells #[.string kk, .int .i64 n, .string b, .string v] 46)) 46 #[]
                  rw [show (wt.drew.alloc (.cells #[.string kk, .int .i64 n, .string b, .string v] 46)).heap.size = wt.heap.size + 1 by simp] at hB0
                  have hr : Hid (Row ((wt.drew.alloc (.cells #[.string kk, .int .i64 n, .string b, .string v] 46)).alloc (.cells #[] 46)) wt.heap.size 46 4 En.cells (.slice (some ⟨wt.heap.size + 1, 0, none⟩) 0 0) []) := RowN.of (xs := ([] : List En)) (f := En.cells) (size := 4) En.len (Nat.le_succ _) (Nat.le_refl _) (by decide) hB0 rfl rfl
                  clear hB0
                  replace HX2 := Lib.hid (HX2.out.alloc (.cells #[] 46))
                  try dsimp only
                  refine hK.out _ _ ?_ (fun hHeldcq2 => ?_)
                  · exact Kn.alloc_4 hHeldcq1.2.2.2.2 _
                  clear hK K hHeldcq1
                  try clear hb
                  try simp only [Act.put, List.setIfInBounds_toArray, List.set_cons_zero, List.set_cons_succ]
                  refine wpAnyH_ready (rs := [2]) (by kernel_rfl) (by simp) ?_
                  refine AllReadyH.cons (opsS (opsS ops0)) (fun K hK => ?_) ?_
                  · skip
                    refine step_append_rows _ rfl _ _ 22 rfl wt.heap.size 46 i0 _ 4 56 Tryd.underlying22 hi0 hz0 hz1 hz2 rfl (by decide) (.slice (some ⟨wt.heap.size + 1, 0, none⟩) 0 0) [] rfl hr.out _ _ _ xs rfl (H1.out.below hHeldcq2.2.2.2.2.out.low) (fun y _ => rgy.one_E y) (by unfold maxLen; simp; omega) (by simp; omega) (hHeldcq2.2.2.2.2.out.low.size) ?_
                    intro v1 w1 hrow1 hgrow1
                    have hl1 := low_grown hHeldcq2.2.2.2.2.out.low (Nat.le_refl _) (hHeldcq2.2.2.2.2.out.low.size) hr.out hgrow1
                    replace HX2 := Lib.hid (HX2.out.grown hgrow1 (by simp [Value.ownBlock]))
                    have hr := Lib.hid hrow1
                    clear hgrow1 hrow1
                    try dsimp only
                    refine hK.out _ _ ?_ (fun hHeldcq3 => ?_)
                    · exact Kn.far_4 hHeldcq2.2.2.2.2 hl1
                    clear hK K hHeldcq2
                    try clear hb
                    try simp only [Act.put, List.setIfInBounds_toArray, List.set_cons_zero, List.set_cons_succ]
                    refine wpAnyH_ready (rs := [5]) (by kernel_rfl) (by simp) ?_
                    refine AllReadyH.cons (opsS (opsS (opsS (opsS (opsS ops0))))) (fun K hK => ?_) ?_
                    · skip
                      refine step_append_row _ rfl _ _ 22 rfl wt.heap.size 46 i0 _ 4 56 Tryd.underlying22 hi0 hz0 hz1 hz2 rfl (by decide) _ _ rfl hr.out En.len _ ⟨kk, n, b, v⟩ rfl (blk_cells (l := En.cells ⟨kk, n, b, v⟩) HX2.out) (rgy.one_E _) HX2.out.lt (by unfold maxLen; simp; omega) (by simp; omega) (hHeldcq3.2.2.2.2.out.low.size) ?_
                      intro v2 w2 hrow2 hgrow2
                      have hl2 := low_grown hHeldcq3.2.2.2.2.out.low (Nat.le_refl _) (hHeldcq3.2.2.2.2.out.low.size) hr.out hgrow2
                      rw [hzz.out] at hrow2
                      have hr2 := Lib.hid hrow2
                      clear hgrow2 hrow2 hr HX2
                      try dsimp only
                      refine hK.out _ _ ?_ (fun hHeldcq4 => ?_)
                      · exact Kn.far_4 hHeldcq3.2.2.2.2 hl2
                      clear hK K hHeldcq3
                      try clear hb
                      try simp only [Act.put, List.setIfInBounds_toArray, List.set_cons_zero, List.set_cons_succ]
                      refine wpAnyH_take (i := 6) (v := ?vcqx4x0x2x5i6) (opsS (opsS (opsS (opsS (opsS (opsS ops0)))))) (by kernel_rfl) (by kernel_rfl) (by kernel_rfl) (fun _ _ _ h => h) (Or.inl ⟨by rfl, ?ycqx4x0x2x5i6⟩) hHeldcq4 ?_
                      case ycqx4x0x2x5i6 => (intro w hSw; (try dsimp only at hSw); go_simp; try (with_reducible rfl))
                      try simp only [Act.put, List.setIfInBounds_toArray, List.set_cons_zero, List.set_cons_succ]
                      refine wpAnyH_done (by kernel_rfl) ?_ _
                      clear hHeldcq4
                      have hlt2 := Lib.hid hl2
                      clear hl2
                      replace HL := Lib.hid (HL.out.trans (hlt2.out.mono HL.out.size))
                      replace H1 := Lib.hid (H1.out.more_below hlt2.out)
                      obtain ⟨A9, c9, rfl, hR9⟩ := hr2.out.reads
                      have H9 := Lib.hid hR9
                      clear hR9 hr2 hlt2
                      go_wp2_with fail
                      refine (HM2.out w2 A9 c9 H9.out (Lib.hid (HLt.out.next HL.out))).mono ?_
                      rintro e w3 ⟨v3, rfl, hrow, hb⟩
                      obtain ⟨A3, c3, rfl, hR3⟩ := hrow.reads
                      have H3 := Lib.hid hR3
                      clear hrow hR3
                      replace H1 := Lib.hid (H1.out.more_below hb)
                      replace HL := Lib.hid (HL.out.trans (hb.mono HL.out.size))
                      clear hb
                      go_wp2_with fail
                      refine (HM1.out w3 H1.out (Lib.hid (HLt.out.next HL.out))).mono ?_
                      rintro e w4 ⟨v4, rfl, hrow, hb⟩
                      obtain ⟨A4, c4, rfl, hR4⟩ := hrow.reads
                      have H4 := Lib.hid hR4
                      clear hrow hR4
                      replace H1 := Lib.hid (H1.out.more_below hb)
                      replace H3 := Lib.hid (H3.out.more_below hb)
                      replace HL := Lib.hid (HL.out.trans (hb.mono HL.out.size))
                      clear hb
                      go_wp2_with fail
                      refine (rsame_any w4 A3 A4 c3 c4 ms ms (by omega) (by omega) H3.out H4.out).mono ?_
                      rw [show decide (ms = ms) = true by simp]
                      rintro e w5 ⟨rfl, hb⟩
                      replace H1 := Lib.hid (H1.out.more_below hb)
                      replace HL := Lib.hid (HL.out.trans (hb.mono HL.out.size))
                      clear hb
                      go_wp2_with fail
                      refine (awake_any _ (Lib.hid (HLt.out.next HL.out))).mono ?_
                      rintro e w9 ⟨rfl, hb⟩
                      replace HL := Lib.hid (HL.out.trans (hb.mono HL.out.size))
                      clear hb
                      go_wp2
                      go_ret
                      exact ⟨rfl, HL.out⟩
                    exact AllReadyH.nil
                  exact AllReadyH.nil
                exact AllReadyH.nil
              exact AllReadyH.nil
theorem back_all (W : World) (v0 : Value) (v1 : Value) (v2 : Value) (h0 : V22 W v0) (h1 : V26 W v1) (h2 : V46 W v2) (HLt : Hid (Lets W)) :
    Calls Tryd.prog 5 #[v0, v1, v2] W fun e w' => e = .returned (.bool true) ∧ Below W.heap.size W w' := by
  obtain ⟨A, ca, xs, rfl, a1, a2, hR, hz⟩ := ents h0
  obtain ⟨q, rfl, hq⟩ := h1
  obtain ⟨r, rfl, hr⟩ := h2
  exact back_walk W A ca xs q.name q.rack q.zone q.up r.key_ r.regN r.regBy r.regValue HLt (Nat.le_trans a1 a2) hR hz hq ⟨hr.1, hr.2.2.1, hr.2.2.2⟩
end Go.Proofs.YtfkjoeibofnnoaaDoor.tp
