/- The order of members: the rest. -/
import Derived.Test.YteddmjfpbdihiaaA
import Derived.Laws.MakeOwn
namespace Go.Proofs.Yteddmjfpbdihiaa.walk
open Go.ChangeShapes Go.WideShapes Go.ChangeAt Go.RowKit Go.Proofs.Aid
open Go.Proofs.Yteddmjfpbdihiaa.ints (i64c)
theorem info3 : (Try.prog.info? 3).map (fun i => (i.zero, i.size, i.bytes)) = some (some (.int .i64 0), 1, 8) := by kernel_rfl
def restTo (T : List Int) (k : Nat) : List Int := ((List.range k).filter fun (i : Nat) => decide ((i : Int) ∉ T)).map Int.ofNat
theorem restTo_zero (T : List Int) : restTo T 0 = [] := rfl
theorem restTo_old {T : List Int} {k : Nat} (h : (k : Int) ∈ T) : restTo T (k + 1) = restTo T k := by
  unfold restTo; rw [List.range_succ, List.filter_append]; simp [h]
theorem restTo_new {T : List Int} {k : Nat} (h : (k : Int) ∉ T) : restTo T (k + 1) = restTo T k ++ [(k : Int)] := by
  unfold restTo; rw [List.range_succ, List.filter_append]; simp [h]
theorem restTo_mem {T : List Int} {k : Nat} {x : Int} : x ∈ restTo T k ↔ 0 ≤ x ∧ x < k ∧ x ∉ T := by
  unfold restTo; simp only [List.mem_map, List.mem_filter, List.mem_range, decide_eq_true_eq]
  constructor
  · rintro ⟨i, ⟨h1, h2⟩, rfl⟩; exact ⟨by simp, by simpa using h1, h2⟩
  · rintro ⟨h1, h2, h3⟩; exact ⟨x.toNat, ⟨by omega, by rwa [Int.toNat_of_nonneg h1]⟩, by simp; omega⟩
theorem restTo_len (T : List Int) (k : Nat) : (restTo T k).length ≤ k := by
  unfold restTo; rw [List.length_map]; exact Nat.le_trans (List.length_filter_le _ _) (by simp)
/-- A row of bools. -/
def bools (m : Nat) (f : Nat → Bool) : Array Value := ((List.range m).map fun i => Value.bool (f i)).toArray
theorem bools_at {m : Nat} {f : Nat → Bool} {i : Nat} (h : i < m) : (bools m f)[i]? = some (.bool (f i)) := by simp [bools, h]
theorem bools_set {m : Nat} {f : Nat → Bool} {i : Nat} : (bools m f).setIfInBounds i (.bool true) = bools m (fun j => if j = i then true else f j) := by
  apply Array.ext'
  simp only [bools, List.setIfInBounds_toArray]
  apply List.ext_getElem
  · simp
  · intro j h1 h2
    simp only [List.getElem_set, List.getElem_map, List.getElem_range]
    by_cases e : i = j
    · subst e; simp
    · simp [e, Ne.symm e]
theorem bools_rep (m : Nat) : Array.replicate m (Value.bool false) = bools m (fun _ => false) := by
  apply Array.ext'
  simp only [bools]
  apply List.ext_getElem <;> simp
theorem info4 : (Try.prog.info? 4).map (fun i => (i.zero, i.size, i.bytes)) = some (some (.bool false), 1, 1) := by kernel_rfl
theorem mk_bools (w : World) (m : Nat) (hm : m ≤ 1000) : (Instr.makeSlice 41 (.int .i64 m) (.int .i64 m)).run Try.prog w = .ok (.slice (some ⟨w.heap.size, 0, none⟩) m m) (w.alloc (.cells (bools m (fun _ => false)) 4)) := by
  obtain ⟨i0, hi0, hz0, hz1, hz2⟩ := info_parts info4
  have h := run_make (P := Try.prog) w 41 4 i0 (.bool false) Try.underlying41 hi0 hz0 .i64 .i64 m m (by omega) (Int.le_refl _) (by rw [hz2]; omega) (by omega)
  rw [h, hz1]
  have e : madeCells (Value.bool false).cells ((m : Int).toNat * i0.size) = bools m (fun _ => false) := by
    rw [hz1, ← bools_rep]
    simp only [madeCells, Value.cells, Int.toNat_natCast, Nat.mul_one]
    apply Array.ext
    · simp
    · intro i h1 h2
      simp [Nat.mod_one]
  rw [hz1] at e
  simp only [Int.toNat_natCast] at e ⊢
  rw [e]
structure RB (w : World) (g m : Nat) (f : Nat → Bool) (wr : World) : Prop where
  b : Blk wr g 4 (bools m f)
  low : Below w.heap.size w wr
  hg : w.heap.size ≤ g
theorem take_mem {T : List Int} {k : Nat} (h : k < T.length) (j : Int) : (j ∈ T.take (k + 1)) ↔ j = T[k] ∨ j ∈ T.take k := by
  rw [List.take_succ_eq_append_getElem h, List.mem_append, List.mem_singleton]; exact or_comm
theorem RB.set_ {w : World} {g m : Nat} {T : List Int} {k : Nat} {wr : World} (h : RB w g m (fun j => decide ((j : Int) ∈ T.take k)) wr) (hk : k < T.length) {q : Nat} (hq : T[k] = q) :
    RB w g m (fun j => decide ((j : Int) ∈ T.take (k + 1))) (wr.setCell ⟨g, q, none⟩ (.bool true)) := by
  refine ⟨?_, h.low.setCell (p := ⟨g, q, none⟩) h.hg _, h.hg⟩
  have := h.b.set_ q (.bool true)
  rw [bools_set] at this
  rw [show (fun j : Nat => decide ((j : Int) ∈ T.take (k + 1))) = fun j => if j = q then true else decide ((j : Int) ∈ T.take k) from funext fun j => ?_]
  · exact this
  · by_cases e : j = q
    · subst e; rw [if_pos rfl, decide_eq_true_eq, take_mem hk]; exact .inl hq.symm
    · rw [if_neg e, decide_eq_decide, take_mem hk, hq]
      exact ⟨fun h => h.resolve_left (by omega), .inr⟩
set_option maxHeartbeats 2000000 in
theorem rest_any (w : World) (A B : Option Addr) (ca cb : Nat) (m : Nat) (T : List Int) (hm : m ≤ 1000) (hl : T.length ≤ 1000) (h1 : Reads w w.heap.size 1 B T.length (T.flatMap i64c)) (ht : ∀ x ∈ T, 0 ≤ x ∧ x < m) :
    Calls Try.prog 14 #[.slice A m ca, .slice B T.length cb] w fun e w' => ∃ v, e = .returned v ∧ Row w' w.heap.size 3 1 i64c v (restTo T m) ∧ Below w.heap.size w w' := by
  obtain ⟨i0, hi0, hz0, hz1, hz2⟩ := info_parts info3
  have H1 := Lib.hid h1
  have HT := Lib.hid ht
  clear h1 ht
  have hmk := fun w => mk_bools w m hm
  go_enter Try.func14, Try.ntmps14
  go_wp2_with fail
  have hs0 : Hid (RB w w.heap.size m (fun j => decide ((j : Int) ∈ T.take 0)) (w.alloc (.cells (bools m (fun _ => false)) 4))) := ⟨Blk.new _ _ _, (Below.refl _ _).alloc (Nat.le_refl _) _, Nat.le_refl _⟩
  clear hmk
  generalize hg : w.heap.size = g at hs0 ⊢
  have Hg := Lib.hid hg
  clear hg
  go_loopw [7, 15] (fun _ iv wr => ∃ k : Nat, k ≤ T.length ∧ iv = .int .i64 k ∧ Hid (RB w g m (fun j => decide ((j : Int) ∈ T.take k)) wr)) (fun _ iv _ => T.length - (intOf iv).toNat)
  case atStart => exact ⟨0, by omega, rfl, hs0⟩
  case round =>
    obtain ⟨k, hk, rfl, hrb⟩ := hrel
    clear hs0
    by_cases hlt : k < T.length
    · obtain ⟨a1, q1, -, c1⟩ := (H1.out.below hrb.out.low).elem1 hlt
      subst q1
      have hx := HT.out _ (List.getElem_mem hlt)
      obtain ⟨q, hq⟩ := Int.eq_ofNat_of_zero_le hx.1
      have hnx := fun wr h => Lib.hid (RB.set_ (w := w) (g := g) (m := m) (wr := wr) h hlt hq)
      rw [hq] at c1 hx
      clear hq
      have hq : q < m := by omega
      have hc := (hrb.out.b.cell q).trans (bools_at hq)
      have hf := hrb.out.b.frozen q
      go_wp2
      go_roundw
      case rel => exact ⟨k + 1, by omega, by go_num, hnx _ hrb.out⟩
      case measure => simp [intOf]; omega
    · have hkl : k = T.length := by omega
      subst hkl
      rw [List.take_length] at hrb
      have hfst : Row wr (w.heap.size + 1) 3 1 i64c (.slice none 0 0) (restTo T 0) := Row.nil _ _ _ _ _
      go_wp2_with fail
      go_loopw [8, 9, 25] (fun v _ iv wr => ∃ k : Nat, k ≤ m ∧ iv = .int .i64 k ∧ Hid (RB w g m (fun j => decide ((j : Int) ∈ T)) wr) ∧ Row wr (w.heap.size + 1) 3 1 i64c v (restTo T k)) (fun _ _ iv _ => m - (intOf iv).toNat)
      case atStart => exact ⟨0, by omega, rfl, hrb, hfst⟩
      case round =>
        obtain ⟨k, hk, rfl, hrb, hrow⟩ := hrel
        clear hfst
        by_cases hlt : k < m
        · have hc := (hrb.out.b.cell k).trans (bools_at hlt)
          have hlen := restTo_len T k
          have hsz := hrb.out.low.size
          by_cases hin : (k : Int) ∈ T
          · have hro := Lib.hid (restTo_old hin)
            have hin' : decide ((k : Int) ∈ T) = true := by simpa using hin
            rw [hin'] at hc
            clear hin hin'
            go_wp2
            go_roundw
            case rel => exact ⟨k + 1, by omega, by go_num, hrb, by rw [hro.out]; exact hrow⟩
            case measure => simp [intOf]; omega
          · have hro := Lib.hid (restTo_new hin)
            have hin' : decide ((k : Int) ∈ T) = false := by simpa using hin
            rw [hin'] at hc
            clear hin hin'
            go_wp2_with (at_builtin; refine wpList_append_row _ rfl _ _ 28 rfl (w.heap.size + 1) 3 i0 (.int .i64 0) 1 8 Try.underlying28 hi0 hz0 hz1 hz2 rfl (by decide) _ _ rfl (hrow.alloc _) (fun _ => rfl) _ (k : Int) rfl (cells_new _ _ _) (by simp [i64c, Value.oneCell']) (by unfold maxLen; omega) (by omega) (by have := hrb.out.b.lt; have := hrb.out.hg; simp; omega) ?_; intro v' w1 hrow' hgrow)
            have hrb2 : Hid (RB w g m (fun j => decide ((j : Int) ∈ T)) w1) := ⟨(hrb.out.b.alloc _).grown hgrow (fun e => by have := hrow.own e.symm; have := Hg.out; omega), low_row hrb.out.low hrow (by omega) hsz hgrow, hrb.out.hg⟩
            go_roundw
            case rel => exact ⟨k + 1, by omega, by go_num, hrb2, by rw [hro.out]; exact hrow'⟩
            case measure => simp [intOf]; omega
        · have hkm : k = m := by omega
          subst hkm
          go_wp2
          go_ret
          exact ⟨_, rfl, hrow.more (by omega), hrb.out.low⟩
end Go.Proofs.Yteddmjfpbdihiaa.walk
