/- What members have, rising, once each: the package's. -/
import Derived.Test.YtfkjoeibofnnoaaDoorTpE
import Derived.Test.YtfkjoeibofnnoaaDoorSrt
import Derived.Lib.RowBridge
namespace Go.Proofs.YtfkjoeibofnnoaaDoor.tp
set_option linter.unusedSimpArgs false
open Go.ChangeShapes Go.WideShapes Go.ChangeAt Go.RowKit Go.Proofs.Aid
open Go.Sort (Holds putRow grow)
open Go.Proofs.YtfkjoeibofnnoaaDoor.texts (tc)
theorem infoT : (Tryd.prog.info? 9).map (fun i => (i.zero, i.size, i.bytes)) = some (some (.string ⟨#[]⟩), 1, 16) := by kernel_rfl
def strs (l : List (List UInt8)) : List ByteArray := l.map fun x => ⟨x.toArray⟩
theorem strs_length (l : List (List UInt8)) : (strs l).length = l.length := by simp [strs]
/-- Texts that lie somewhere. -/
def TextsAt (w : World) (l : List (List UInt8)) (e : Ending) (w' : World) : Prop := ∃ A c, e = .returned (.slice A l.length c) ∧ l.length ≤ c ∧ Reads w' w'.heap.size 1 A l.length ((strs l).flatMap tc) ∧ Below w.heap.size w w'
def setT (xs : List ByteArray) : List (List UInt8) := sets.all [] (srt.data xs)
/-- A function value that has a text of a member. -/
def Has (F : FuncId) (f : Mb → ByteArray) : Prop := ∀ (m : Mb) (w : World), Calls Tryd.prog F #[m.val] w fun e w' => e = .returned (.string (f m)) ∧ Below w.heap.size w w'
def toldK (f : Mb → ByteArray) (xs : List Mb) (k : Nat) : List ByteArray := (xs.take k).map f
theorem toldK_step {f : Mb → ByteArray} {xs : List Mb} {k : Nat} (h : k < xs.length) : toldK f xs (k + 1) = toldK f xs k ++ [f xs[k]] := by
  unfold toldK; rw [List.take_succ_eq_append_getElem h, List.map_append]; rfl
theorem toldK_all (f : Mb → ByteArray) (xs : List Mb) : toldK f xs xs.length = xs.map f := by unfold toldK; rw [List.take_length]
theorem toldK_len {f : Mb → ByteArray} {xs : List Mb} {k : Nat} (h : k ≤ xs.length) : (toldK f xs k).length = k := by unfold toldK; simp; omega
theorem one_T (s : ByteArray) : ∀ u ∈ tc s, u.oneCell' = true := by simp [tc, Value.oneCell']
theorem low_rowT {B : Nat} {W w w' : World} {base : Nat} {e : TypeId} {size : Nat} {v : Value} {xs : List ByteArray} (hlow : Below B W w) (h : Row w base e size tc v xs) (hB : B ≤ base) (hz : B ≤ w.heap.size) {o : Obj}
    (hg : (w.alloc o).grownBy w' v.ownBlock) : Below B W w' := low_row hlow h hB hz hg
/-- Sorted, and compacted: what the two calls leave. -/
theorem sorted_at {w w2 : World} {g n : Nat} {os : Array Obj} {B : Nat} {W : World} {ts : List ByteArray} (hH : Holds encStr w g 0 (srt.data ts).toArray) (hg : g < w.heap.size) (hB : B ≤ g) (hlow : Below B W w)
    (e : w2 = grow (putRow encStr (Go.Sort.ahead w n) g 0 ((srt.data ts).mergeSort fun x y => decide (x ≤ y)).toArray) os) :
    Holds encStr w2 g 0 ((srt.data ts).mergeSort fun x y => decide (x ≤ y)).toArray ∧ g < w2.heap.size ∧ Below B W w2 := by
  have h1 := Go.Sort.holds_putRow encStr (Go.Sort.ahead w n) g 0 _ ((srt.data ts).mergeSort fun x y => decide (x ≤ y)).toArray (Go.Sort.holds_ahead encStr w n g 0 _ hH) (by simp)
  have h2 := srt.below_putRow (srt.below_ahead hlow n) hB encStr 0 ((srt.data ts).mergeSort fun x y => decide (x ≤ y)).toArray
  have hsz : (putRow encStr (Go.Sort.ahead w n) g 0 ((srt.data ts).mergeSort fun x y => decide (x ≤ y)).toArray).heap.size = w.heap.size := by
    show (w.heap.modify g _).size = _
    rw [Array.size_modify]
  subst e
  refine ⟨Go.Sort.holds_grow encStr _ os g 0 _ (by rw [hsz]; exact hg) h1, ?_, srt.below_grow' h2 os (by rw [hsz]; omega)⟩
  show g < (_ ++ os).size
  rw [Array.size_append, hsz]; omega
theorem compact_at {w w2 : World} {g q : Nat} {B : Nat} {W : World} {zs : List (List UInt8)} (hH : Holds encStr w g 0 zs.toArray) (hg : g < w.heap.size) (hB : B ≤ g) (hlow : Below B W w)
    (e : w2 = putRow encStr (Go.Sort.ahead w q) g 0 (Lib.compact zs ++ List.replicate (zs.length - (Lib.compact zs).length) []).toArray) :
    Reads w2 w2.heap.size 1 (some ⟨g, 0, none⟩) (Lib.compact zs).length ((strs (Lib.compact zs)).flatMap tc) ∧ Below B W w2 := by
  have hc := Lib.compact_length_le zs
  have h1 := Go.Sort.holds_putRow encStr (Go.Sort.ahead w q) g 0 _ (Lib.compact zs ++ List.replicate (zs.length - (Lib.compact zs).length) []).toArray (Go.Sort.holds_ahead encStr w q g 0 _ hH) (by simp; omega)
  have h2 := srt.below_putRow (srt.below_ahead hlow q) hB encStr 0 (Lib.compact zs ++ List.replicate (zs.length - (Lib.compact zs).length) []).toArray
  have hsz : (putRow encStr (Go.Sort.ahead w q) g 0 (Lib.compact zs ++ List.replicate (zs.length - (Lib.compact zs).length) []).toArray).heap.size = w.heap.size := by
    show (w.heap.modify g _).size = _
    rw [Array.size_modify]
  rw [← e] at h1 h2 hsz
  have h3 := srt.reads_of_holds h1 (by rw [hsz]; exact hg) (Lib.compact zs).length (by simp)
  rw [List.take_left'] at h3
  · exact ⟨h3, h2⟩
  · rfl
theorem slice_base {w : World} {base : Nat} {A : Option Addr} {n c : Nat} {ts : List ByteArray} {e : TypeId} (h : Row w base e 1 tc (.slice A n c) ts) (hn : 0 < ts.length) : ∃ g, A = some ⟨g, 0, none⟩ ∧ base ≤ g ∧ g < w.heap.size ∧ n = ts.length ∧ n ≤ c := by
  obtain ⟨A', c', e', hc, -⟩ := h.reads'
  injection e' with e1 e2 e3
  subst e1 e2 e3
  rcases h.2 with ⟨h', _⟩ | ⟨g, _, _, h', _⟩
  · injection h' with h1 h2; omega
  · injection h' with h1
    subst h1
    exact ⟨g, rfl, (h.own rfl).1, (h.own rfl).2, rfl, hc⟩
set_option maxRecDepth 100000 in
set_option maxHeartbeats 1000000 in
theorem told_any (w : World) (A : Option Addr) (ca : Nat) (xs : List Mb) (F : FuncId) (hF : Enters F) (f : Mb → ByteArray) (hP : Has F f) (hl : xs.length ≤ 100000) (h1 : Reads w w.heap.size 4 A xs.length (xs.flatMap Mb.cells)) :
    Calls Tryd.prog 35 #[.slice A xs.length ca, .func (.func F) #[] #[]] w (TextsAt w (setT (xs.map f))) := by
  obtain ⟨i0, hi0, hz0, hz1, hz2⟩ := info_parts infoT
  have H1 := Lib.hid h1
  have HP := Lib.hid hP
  unfold Enters at hF
  have HG := Lib.hid (toldK_all f xs)
  clear h1 hP
  have hrow0 : Row w w.heap.size 9 1 tc (.slice none 0 0) (toldK f xs 0) := Row.nil _ _ _ _ _
  go_enter Tryd.func35, Tryd.ntmps35
  go_wp2_with fail
  go_loopw [5, 10] (fun v iv wr => ∃ k : Nat, k ≤ xs.length ∧ iv = .int .i64 k ∧ Row wr w.heap.size 9 1 tc v (toldK f xs k) ∧ Below w.heap.size w wr) (fun _ iv _ => xs.length - (intOf iv).toNat)
  case atStart => exact ⟨0, by omega, rfl, hrow0, Below.refl _ _⟩
  case round =>
    clear hrow0
    obtain ⟨k, hk, rfl, hrow, hlow⟩ := hrel
    have hsz := hlow.size
    by_cases hlt : k < xs.length
    · obtain ⟨ad, rfl, had, c0, c1, c2, c3⟩ := elemM (H1.out.below hlow) hlt
      have hro := Lib.hid (toldK_step (f := f) hlt)
      have hlen := toldK_len (f := f) hk
      generalize toldK f xs k = L at *
      generalize xs[k] = xe at *
      have HC := Lib.hid (HP.out xe)
      obtain ⟨nn, rr, zz, uu⟩ := xe
      simp only at c0 c1 c2 c3
      generalize f ⟨nn, rr, zz, uu⟩ = s at *
      go_wp2_with fail
      refine (HC.out _).mono ?_
      rintro e w2 ⟨rfl, hb⟩
      have hrow2 := (hrow.alloc _).below hb
      have hlow2 := (hlow.alloc hsz _).trans (hb.mono (by simp; omega))
      have hz2' : w.heap.size ≤ w2.heap.size := Nat.le_trans (by simp; omega) hb.size
      clear hb HC hrow hlow
      go_wp2_with (at_builtin; refine wpList_append_row _ rfl _ _ 40 rfl w.heap.size 9 i0 _ 1 16 Tryd.underlying40 hi0 hz0 hz1 hz2 rfl (by decide) _ _ rfl (hrow2.alloc _) (fun _ => rfl) _ s rfl (cells_new _ _ (tc s)) (one_T _) (by unfold maxLen; omega) (by omega) (by simp; omega) ?_; intro v' w3 hrow' hgrow)
      have hlow' := low_rowT hlow2 hrow2 (Nat.le_refl _) hz2' hgrow
      go_roundw
      case rel => exact ⟨k + 1, by omega, by go_num, by rw [hro.out]; exact hrow', hlow'⟩
      case measure => simp [intOf]; omega
    · have hkl : k = xs.length := by omega
      subst hkl
      rw [HG.out] at hrow
      have htb : (xs.map f).length ≤ 100000 := by rw [List.length_map]; exact hl
      generalize xs.map f = ts at *
      clear HG
      obtain ⟨A1, c1, rfl⟩ := hrow.form
      by_cases h0 : ts.length = 0
      · have hx := List.length_eq_zero_iff.1 h0
        subst hx
        have HL := Lib.hid hlow
        clear hlow hrow
        go_wp2_with fail
        refine (Tryd.slices_Sort_string_none A1 c1 wr).mono ?_
        rintro e w2 ⟨rfl, rfl⟩
        go_wp2_with fail
        refine (Tryd.slices_Compact_string_empty A1 c1 _).mono ?_
        rintro e w2 ⟨rfl, rfl⟩
        go_wp2
        go_ret
        exact ⟨A1, c1, rfl, Nat.zero_le _, ⟨rfl, fun h => absurd h (Nat.lt_irrefl 0)⟩, HL.out⟩
      · obtain ⟨g, rfl, hgb, hgl, -, hcc⟩ := slice_base hrow (by omega)
        have hH := srt.holds_of_row hrow
        have hd : (srt.data ts).length = ts.length := by simp [srt.data]
        have hSrt := Lib.hid (Tryd.slices_Sort_string g 0 c1 (srt.data ts) wr hH hgl (by omega))
        rw [hd] at hSrt
        have hat := fun (w2 : World) (n : Nat) (os : Array Obj) => Lib.hid (sorted_at (w2 := w2) (n := n) (os := os) hH hgl hgb hlow)
        have hset := Lib.hid (show Lib.compact ((srt.data ts).mergeSort fun x y => decide (x ≤ y)) = setT ts from sets.sort_compact _)
        have hml : ((srt.data ts).mergeSort fun x y => decide (x ≤ y)).length = ts.length := by rw [List.length_mergeSort, hd]
        clear hlow hrow hH
        generalize (srt.data ts).mergeSort (fun x y => decide (x ≤ y)) = zs at *
        go_wp2_with fail
        refine hSrt.out.mono ?_
        rintro e w2 ⟨rfl, n, os, he⟩
        obtain ⟨hH2, hg2, hlow2⟩ := (hat w2 n os).out he
        have hC := Lib.hid (Tryd.slices_Compact_string g 0 c1 zs w2 hH2 (by omega) (by omega))
        rw [hml] at hC
        clear hat he hSrt
        go_wp2_with fail
        refine hC.out.mono ?_
        rintro e w3 ⟨rfl, q, he3⟩
        rw [← hml] at he3
        obtain ⟨hR3, hlow3⟩ := compact_at hH2 hg2 hgb hlow2 he3
        have hcl := Lib.compact_length_le zs
        rw [hset.out] at hR3 hcl
        rw [hset.out]
        have HR := Lib.hid hR3
        have HL := Lib.hid hlow3
        clear he3 hC hH2 hlow2 hR3 hlow3 hset
        generalize setT ts = S at *
        go_wp2
        go_ret
        exact ⟨_, _, rfl, by omega, HR.out, HL.out⟩
theorem entersR : Enters 36 := enters_of Tryd.func36 (by kernel_rfl) rfl
theorem entersZ : Enters 38 := enters_of Tryd.func38 (by kernel_rfl) rfl
theorem racks_any (w : World) (A : Option Addr) (ca : Nat) (xs : List Mb) (hl : xs.length ≤ 100000) (h1 : Reads w w.heap.size 4 A xs.length (xs.flatMap Mb.cells)) :
    Calls Tryd.prog 21 #[.slice A xs.length ca] w (TextsAt w (setT (xs.map Mb.r))) := by
  have HC := Lib.hid (told_any w A ca xs _ entersR Mb.r rack_any hl h1)
  clear h1
  go_enter Tryd.func21, Tryd.ntmps21
  go_wp2_with fail
  refine HC.out.mono ?_
  rintro e w1 ⟨A1, c1, rfl, hc, hR, hb⟩
  have HR := Lib.hid hR
  have HL := Lib.hid hb
  clear hR hb
  go_wp2
  go_ret
  exact ⟨_, _, rfl, hc, HR.out, HL.out⟩
theorem zones_any (w : World) (A : Option Addr) (ca : Nat) (xs : List Mb) (hl : xs.length ≤ 100000) (h1 : Reads w w.heap.size 4 A xs.length (xs.flatMap Mb.cells)) :
    Calls Tryd.prog 23 #[.slice A xs.length ca] w (TextsAt w (setT (xs.map Mb.z))) := by
  have HC := Lib.hid (told_any w A ca xs _ entersZ Mb.z zone_any hl h1)
  clear h1
  go_enter Tryd.func23, Tryd.ntmps23
  go_wp2_with fail
  refine HC.out.mono ?_
  rintro e w1 ⟨A1, c1, rfl, hc, hR, hb⟩
  have HR := Lib.hid hR
  have HL := Lib.hid hb
  clear hR hb
  go_wp2
  go_ret
  exact ⟨_, _, rfl, hc, HR.out, HL.out⟩
end Go.Proofs.YtfkjoeibofnnoaaDoor.tp
