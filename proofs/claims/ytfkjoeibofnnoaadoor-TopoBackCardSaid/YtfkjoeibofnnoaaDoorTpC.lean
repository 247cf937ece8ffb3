/- All members of any entries: the package's and the reference's. -/
import Derived.Test.YtfkjoeibofnnoaaDoorTpB
import Derived.Test.YtfkjoeibofnnoaaDoorRgF
import Derived.Test.YtfkjoeibofnnoaaDoorRgG
namespace Go.Proofs.YtfkjoeibofnnoaaDoor.tp
set_option linter.unusedSimpArgs false
open Go.ChangeShapes Go.WideShapes Go.ChangeAt Go.RowKit Go.Proofs.Aid
open Go.Proofs.YtfkjoeibofnnoaaDoor.nm (Lets)
open Go.Proofs.YtfkjoeibofnnoaaDoor.rgy (En elemE underP infoE one_E)
theorem infoM : (Tryd.prog.info? 26).map (fun i => (i.zero, i.size, i.bytes)) = some (some (.agg #[.string ⟨#[]⟩, .string ⟨#[]⟩, .string ⟨#[]⟩, .bool false]), 4, 56) := by kernel_rfl
theorem one_M (x : Mb) : ∀ u ∈ x.cells, u.oneCell' = true := by simp [Mb.cells, Value.oneCell']
def RowM (w : World) (xs : List Mb) (e : Ending) (w' : World) : Prop := ∃ v, e = .returned v ∧ Row w' w.heap.size 26 4 Mb.cells v xs ∧ Below w.heap.size w w'
abbrev sNode : ByteArray := ⟨#[110, 111, 100, 101]⟩
def memE (e : En) : Option Mb := mem (e.key.extract 5 e.key.size) e.reg.value
def mems (l : List En) : List Mb := (l.filter (underP sNode)).filterMap memE
def memsK (ys : List En) (k : Nat) : List Mb := (ys.take k).filterMap memE
theorem memsK_zero (ys : List En) : memsK ys 0 = [] := rfl
theorem memsK_all (ys : List En) : memsK ys ys.length = ys.filterMap memE := by unfold memsK; rw [List.take_length]
theorem memsK_no {ys : List En} {k : Nat} (h : k < ys.length) (hn : memOk (ys[k].key.extract 5 ys[k].key.size) ys[k].reg.value = false) : memsK ys (k + 1) = memsK ys k := by
  unfold memsK
  rw [List.take_succ_eq_append_getElem h, List.filterMap_append]
  simp [memE, mem, hn]
theorem memsK_yes {ys : List En} {k : Nat} (h : k < ys.length) (hn : memOk (ys[k].key.extract 5 ys[k].key.size) ys[k].reg.value = true) : memsK ys (k + 1) = memsK ys k ++ [memV (ys[k].key.extract 5 ys[k].key.size) ys[k].reg.value] := by
  unfold memsK
  rw [List.take_succ_eq_append_getElem h, List.filterMap_append]
  simp [memE, mem, hn]
theorem memsK_len (ys : List En) (k : Nat) : (memsK ys k).length ≤ k := by
  unfold memsK
  exact Nat.le_trans (List.length_filterMap_le _ _) (by rw [List.length_take]; omega)
theorem under_five {e : En} (h : underP sNode e = true) : 5 ≤ e.key.size := by
  unfold underP Lib.hasPrefix at h
  have := (List.isPrefixOf_iff_prefix.1 h).length_le
  simpa using this
theorem memR_no {node v : ByteArray} (h : memOk node v = false) : memR node v = .returned (.tuple #[.agg #[.string ⟨#[]⟩, .string ⟨#[]⟩, .string ⟨#[]⟩, .bool false], .bool false]) := by simp [memR, mem, h, Mb.zero]
theorem memR_yes {node v : ByteArray} (h : memOk node v = true) : memR node v = .returned (.tuple #[(memV node v).val, .bool true]) := by simp [memR, mem, h]
theorem memV_sz {node v : ByteArray} (hn : node.size ≤ 1000000) (hv : v.size ≤ 1000000) : (memV node v).n.size ≤ 1000001 ∧ (memV node v).r.size ≤ 1000001 ∧ (memV node v).z.size ≤ 1000001 := by
  have hps := nm.partsS_small v
  unfold memV
  split
  · rename_i a b c e
    rw [e] at hps
    have := hps a (by simp)
    have := hps b (by simp)
    exact ⟨by show node.size ≤ _; omega, by show a.size ≤ _; omega, by show b.size ≤ _; omega⟩
  · exact ⟨by decide, by decide, by decide⟩
theorem low_row' {B : Nat} {W w w' : World} {base : Nat} {e : TypeId} {size : Nat} {v : Value} {xs : List Mb} (hlow : Below B W w) (h : Row w base e size Mb.cells v xs) (hB : B ≤ base) (hz : B ≤ w.heap.size) {o : Obj}
    (hg : (w.alloc o).grownBy w' v.ownBlock) : Below B W w' := low_row hlow h hB hz hg
theorem cells_new2 (w : World) (o : Obj) (t : TypeId) (l : List Value) : ∀ j u, l[j]? = some u → ((w.alloc o).alloc (.cells l.toArray t)).cell? ⟨w.heap.size + 1, j, none⟩ = some u := fun j u h => by
  have := cells_new (w.alloc o) t l j u h
  rwa [show (w.alloc o).heap.size = w.heap.size + 1 by simp] at this
set_option maxRecDepth 100000 in
set_option maxHeartbeats 4000000 in
theorem members_any (w : World) (A : Option Addr) (ca : Nat) (xs : List En) (hl : xs.length ≤ 100000) (h1 : Reads w w.heap.size 4 A xs.length (xs.flatMap En.cells)) (hs : ∀ r ∈ xs, r.sz) (hs2 : ∀ r ∈ xs, r.key.size ≤ 1000000 ∧ r.reg.value.size ≤ 1000000) (HLt : Hid (Lets w)) :
    Calls Tryd.prog 11 #[.slice A xs.length ca] w (RowM w (mems xs)) := by
  obtain ⟨i0, hi0, hz0, hz1, hz2⟩ := info_parts infoM
  have HU := Lib.hid (rgy.under_any w A ca xs sNode hl h1 hs (by decide))
  have HM := Lib.hid (show mems xs = (xs.filter (underP sNode)).filterMap memE from rfl)
  have H5 := Lib.hid (fun (r : En) (hr : r ∈ xs.filter (underP sNode)) => under_five (List.mem_filter.1 hr).2)
  have HS := Lib.hid (fun (r : En) (hr : r ∈ xs.filter (underP sNode)) => hs2 r (List.mem_filter.1 hr).1)
  have hyl : (xs.filter (underP sNode)).length ≤ 100000 := Nat.le_trans (List.length_filter_le _ _) hl
  clear h1 hs hs2
  go_enter Tryd.func11, Tryd.ntmps11
  go_wp2_with fail
  refine HU.out.mono ?_
  rintro e w1 ⟨v1, rfl, hrow1, hb⟩
  clear HU
  obtain ⟨A1, c1, rfl, hR⟩ := hrow1.reads
  have HL := Lib.hid hb
  have HLt1 := Lib.hid (HLt.out.next hb)
  clear hrow1 hb
  generalize xs.filter (underP sNode) = ys at *
  have HG := Lib.hid (memsK_all ys)
  have H1 := Lib.hid hR
  have hw1 := HL.out.size
  clear hR
  have hrow0 : Row w1 w1.heap.size 26 4 Mb.cells (.slice none 0 0) (memsK ys 0) := Row.nil _ _ _ _ _
  go_wp2_with fail
  go_loopw [3, 12] (fun v iv wr => ∃ k : Nat, k ≤ ys.length ∧ iv = .int .i64 k ∧ Row wr w1.heap.size 26 4 Mb.cells v (memsK ys k) ∧ Below w1.heap.size w1 wr) (fun _ iv _ => ys.length - (intOf iv).toNat)
  case atStart => exact ⟨0, by omega, rfl, hrow0, Below.refl _ _⟩
  case round =>
    clear hrow0
    obtain ⟨k, hk, rfl, hrow, hlow⟩ := hrel
    have hsz := hlow.size
    have hlen := memsK_len ys k
    by_cases hlt : k < ys.length
    · obtain ⟨ad, rfl, had, c0, c1, c2, c3⟩ := elemE (H1.out.below hlow) hlt
      have h5 := H5.out _ (List.getElem_mem hlt)
      have hz := HS.out _ (List.getElem_mem hlt)
      have hyes := Lib.hid (memsK_yes hlt)
      have hno := Lib.hid (memsK_no hlt)
      generalize memsK ys k = L at *
      generalize ys[k] = xe at *
      obtain ⟨kk, n, b, v⟩ := xe
      simp only at c0 c1 c2 c3 h5 hz hyes hno
      have hke : (kk.extract 5 kk.size).size ≤ 1000000 := by rw [ByteArray.size_extract]; omega
      have hl0 := hlow.alloc hsz (.cells #[.string kk, .int .i64 n, .string b, .string v] 46)
      have hr0 := hrow.alloc (.cells #[.string kk, .int .i64 n, .string b, .string v] 46)
      have HC := Lib.hid (member_any (kk.extract 5 kk.size) v (wr.alloc (.cells #[.string kk, .int .i64 n, .string b, .string v] 46)) hke hz.2 (Lib.hid ((HLt1.out.next hlow).next (below_lit _ _))))
      have HR0 := Lib.hid hr0
      have HL0 := Lib.hid hl0
      clear hr0 hl0 hrow hlow
      cases hm : memOk (kk.extract 5 kk.size) v with
      | false =>
        have hro := Lib.hid (hno.out hm)
        rw [memR_no hm] at HC
        clear hm hyes hno
        go_wp2_with fail
        refine HC.out.mono ?_
        rintro e w2 ⟨rfl, hb⟩
        have HR1 := Lib.hid (HR0.out.below hb)
        have HL1 := Lib.hid (HL0.out.trans (hb.mono (by simp; omega)))
        clear hb HR0 HL0 HC
        have HL2 := Lib.hid (HL1.out.alloc HL1.out.size (.cells #[.string ⟨#[]⟩, .string ⟨#[]⟩, .string ⟨#[]⟩, .bool false] 26))
        have HR2 := Lib.hid (HR1.out.alloc (.cells #[.string ⟨#[]⟩, .string ⟨#[]⟩, .string ⟨#[]⟩, .bool false] 26))
        go_wp2
        go_roundw
        case rel => exact ⟨k + 1, by omega, by go_num, by rw [hro.out]; exact HR2.out, HL2.out⟩
        case measure => simp [intOf]; omega
      | true =>
        have hro := Lib.hid (hyes.out hm)
        have hmz := memV_sz hke hz.2
        rw [memR_yes hm] at HC
        clear hm hyes hno
        go_wp2_with fail
        refine HC.out.mono ?_
        rintro e w2 ⟨rfl, hb⟩
        have HR1 := Lib.hid (HR0.out.below hb)
        have HL1 := Lib.hid (HL0.out.trans (hb.mono (by simp; omega)))
        clear hb HR0 HL0 HC
        generalize memV (kk.extract 5 kk.size) v = M at *
        obtain ⟨mn, mr, mz, mu⟩ := M
        have HL2 := Lib.hid (HL1.out.alloc HL1.out.size (.cells #[.string mn, .string mr, .string mz, .bool mu] 26))
        have HR2 := Lib.hid (HR1.out.alloc (.cells #[.string mn, .string mr, .string mz, .bool mu] 26))
        have hs2 := HL2.out.size
        have hs3 := HL1.out.size
        go_wp2_with (at_builtin; refine wpList_append_row _ rfl _ _ 30 rfl w1.heap.size 26 i0 _ 4 56 Tryd.underlying30 hi0 hz0 hz1 hz2 rfl (by decide) _ _ rfl (HR2.out.alloc _) Mb.len _ ⟨mn, mr, mz, mu⟩ rfl (cells_new2 _ _ _ _) (one_M _) (by unfold maxLen; omega) (by omega) (by simp; omega) ?_; intro v' w3 hrow' hgrow)
        have hlow' := low_row' HL2.out HR2.out (Nat.le_refl _) hs2 hgrow
        go_roundw
        case rel => exact ⟨k + 1, by omega, by go_num, by rw [hro.out]; exact hrow', hlow'⟩
        case measure => simp [intOf]; omega
    · have hkl : k = ys.length := by omega
      subst hkl
      go_wp2
      go_ret
      exact ⟨_, rfl, by rw [HM.out, ← HG.out]; exact hrow.more hw1, HL.out.trans (hlow.mono hw1)⟩
end Go.Proofs.YtfkjoeibofnnoaaDoor.tp
