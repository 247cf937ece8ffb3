/- The order of members, by the reference. -/
import Derived.Test.YteddmjfpbdihiaaB
namespace Go.Proofs.Yteddmjfpbdihiaa.walk
open Go.ChangeShapes Go.WideShapes Go.ChangeAt Go.RowKit Go.Proofs.Aid
open Go.Proofs.Yteddmjfpbdihiaa.ints (i64c)
def ownerAt (os : List R9) (f : Int) (k : Nat) : ByteArray := (os.getD ((f + k) % os.length).toNat ⟨ByteArray.empty⟩).v
def told (ns : List ByteArray) (os : List R9) (f : Int) : Nat → List Int
  | 0 => []
  | k + 1 => match fnd ns (ownerAt os f k) with
    | some i => if (i : Int) ∈ told ns os f k then told ns os f k else told ns os f k ++ [(i : Int)]
    | none => told ns os f k
theorem told_none {ns : List ByteArray} {os : List R9} {f : Int} {k : Nat} (h : fnd ns (ownerAt os f k) = none) : told ns os f (k + 1) = told ns os f k := by simp only [told, h]
theorem told_old {ns : List ByteArray} {os : List R9} {f : Int} {k i : Nat} (h : fnd ns (ownerAt os f k) = some i) (hm : (i : Int) ∈ told ns os f k) : told ns os f (k + 1) = told ns os f k := by simp only [told, h]; rw [if_pos hm]
theorem told_new {ns : List ByteArray} {os : List R9} {f : Int} {k i : Nat} (h : fnd ns (ownerAt os f k) = some i) (hm : (i : Int) ∉ told ns os f k) : told ns os f (k + 1) = told ns os f k ++ [(i : Int)] := by simp only [told, h]; rw [if_neg hm]
theorem told_len (ns : List ByteArray) (os : List R9) (f : Int) (k : Nat) : (told ns os f k).length ≤ k := by
  induction k with
  | zero => exact Nat.le_refl _
  | succ k ih =>
    simp only [told]
    split
    · split
      · omega
      · rw [List.length_append]; simp; omega
    · omega
theorem told_mem {ns : List ByteArray} {os : List R9} {f : Int} {k : Nat} {x : Int} (h : x ∈ told ns os f k) : 0 ≤ x ∧ x < ns.length := by
  induction k with
  | zero => simp [told] at h
  | succ k ih =>
    simp only [told] at h
    split at h
    · rename_i i hi
      split at h
      · exact ih h
      · rcases List.mem_append.1 h with h | h
        · exact ih h
        · simp at h; subst h
          have := (fnd_some.1 hi).1
          omega
    · exact ih h
def order (ns : List ByteArray) (os : List R9) (part : Int) : List Int :=
  told ns os (frm part os.length) os.length ++ restTo (told ns os (frm part os.length) os.length) ns.length
theorem elem9 {w : World} {B : Nat} {A : Option Addr} {os : List R9} (h : Reads w B 1 A os.length (os.flatMap R9.cells)) {i : Nat} (hi : i < os.length) :
    ∃ ad, A = some ad ∧ ad.block < B ∧ w.cell? (ad.add i) = some (.string os[i].v) := Reads.elem1 (g := fun r => .string r.v) h hi
theorem owner_at {os : List R9} {f : Int} {k : Nat} {ad : Addr} {w : World} {B : Nat} {A : Option Addr} (h : Reads w B 1 A os.length (os.flatMap R9.cells)) (hk : k < os.length) :
    ∃ q : Nat, (f + k) % (os.length : Int) = q ∧ q < os.length ∧ ∃ ad, A = some ad ∧ ad.block < B ∧ w.cell? (ad.add q) = some (.string (ownerAt os f k)) := by
  have h1 := Int.emod_nonneg (f + k) (b := (os.length : Int)) (by omega)
  have h2 := Int.emod_lt_of_pos (f + k) (b := (os.length : Int)) (by omega)
  obtain ⟨q, hq⟩ := Int.eq_ofNat_of_zero_le h1
  have hlt : q < os.length := by omega
  obtain ⟨ad, e, hb, hc⟩ := elem9 h hlt
  refine ⟨q, hq, hlt, ad, e, hb, ?_⟩
  rw [hc]; unfold ownerAt; rw [hq]; simp [hlt]
theorem frm_rng (part : Int) (n : Nat) : 0 ≤ frm part n ∧ frm part n ≤ n := by
  unfold frm
  split
  · omega
  · have h1 := Int.emod_nonneg part (b := (n : Int)) (by omega)
    have h2 := Int.emod_lt_of_pos part (b := (n : Int)) (by omega)
    omega
set_option maxRecDepth 100000 in
set_option maxHeartbeats 4000000 in
theorem rorder_any (w : World) (A B : Option Addr) (ca cb : Nat) (os : List R9) (rs : List R34) (part : Int) (ho : os.length ≤ 40) (hr : rs.length ≤ 40) (h1 : Reads w w.heap.size 1 A os.length (os.flatMap R9.cells)) (h2 : Reads w w.heap.size 4 B rs.length (rs.flatMap R34.cells)) :
    Calls Try.prog 10 #[.slice A os.length ca, .slice B rs.length cb, .int .i64 part] w fun e w' => ∃ v, e = .returned v ∧ Row w' w.heap.size 3 1 i64c v (order (rs.map R34.name) os part) ∧ Below w.heap.size w w' := by
  obtain ⟨i0, hi0, hz0, hz1, hz2⟩ := info_parts info3
  have H1 := Lib.hid h1
  have H2 := Lib.hid h2
  clear h1 h2
  have HO := Lib.hid (show order (rs.map R34.name) os part = told (rs.map R34.name) os (frm part os.length) os.length ++ restTo (told (rs.map R34.name) os (frm part os.length) os.length) rs.length by unfold order; simp)
  go_enter Try.func10, Try.ntmps10
  go_wp2_with fail
  refine (rfrom_any part os.length w (by omega)).mono ?_
  rintro e w' ⟨rfl, rfl⟩
  have hf := frm_rng part os.length
  generalize frm part os.length = f at *
  obtain ⟨hf0, hf1⟩ := hf
  generalize hns : rs.map R34.name = ns at *
  have HNS := Lib.hid hns
  clear hns
  have hrow0 : Row w' w'.heap.size 3 1 i64c (.slice none 0 0) (told ns os f 0) := Row.nil _ _ _ _ _
  go_wp2_with fail
  go_loopw [7, 9, 10] (fun v iv _ wr => ∃ k : Nat, k ≤ os.length ∧ iv = .int .i64 k ∧ Row wr w'.heap.size 3 1 i64c v (told ns os f k) ∧ Below w'.heap.size w' wr) (fun _ iv _ _ => os.length - (intOf iv).toNat)
  case atStart => exact ⟨0, by omega, rfl, hrow0, Below.refl _ _⟩
  case round =>
    obtain ⟨k, hk, rfl, hrow, hlow⟩ := hrel
    clear hrow0
    have hsz := hlow.size
    have hlen := told_len ns os f k
    by_cases hlt : k < os.length
    · obtain ⟨q, hq, hqlt, ad, rfl, -, c1⟩ := owner_at (f := f) (ad := ⟨0, 0, none⟩) (H1.out.below hlow) hlt
      have h2' := Lib.hid (Reads.more (H2.out.below hlow) hsz)
      have hn0 : ¬ os.length = 0 := by omega
      have hok := Lib.hid (⟨told_none (ns := ns) (os := os) (f := f) (k := k), fun i => told_old (ns := ns) (os := os) (f := f) (k := k) (i := i), fun i => told_new (ns := ns) (os := os) (f := f) (k := k) (i := i)⟩ : (fnd ns (ownerAt os f k) = none → _) ∧ (∀ i, fnd ns (ownerAt os f k) = some i → _ ∈ _ → _) ∧ (∀ i, fnd ns (ownerAt os f k) = some i → _ ∉ _ → _))
      generalize ownerAt os f k = own at *
      obtain ⟨A2, c2, rfl, hrr⟩ := hrow.reads
      have HRR := Lib.hid hrr
      clear hrr
      go_wp2_with fail
      refine (find_any wr B cb rs own (by omega) h2'.out).mono ?_
      rw [HNS.out]
      rintro e wf ⟨rfl, rfl⟩
      clear h2'
      cases hfn : fnd ns own with
      | none =>
        have hro := Lib.hid (hok.out.1 hfn)
        rw [fndI_none hfn]
        clear hfn hok
        go_wp2
        go_roundw
        case rel => exact ⟨k + 1, by omega, by go_num, by rw [hro.out]; exact hrow, hlow⟩
        case measure => simp [intOf]; omega
      | some i =>
        rw [fndI_some hfn]
        by_cases hin : (i : Int) ∈ told ns os f k
        · have hro := Lib.hid (hok.out.2.1 i hfn hin)
          have hin' : decide ((i : Int) ∈ told ns os f k) = true := by simpa using hin
          clear hfn hok hin
          go_wp2_with fail
          refine (in_any wf A2 c2 (told ns os f k) i (by omega) HRR.out).mono ?_
          rw [hin']
          rintro e wg ⟨rfl, rfl⟩
          clear hin'
          go_wp2
          go_roundw
          case rel => exact ⟨k + 1, by omega, by go_num, by rw [hro.out]; exact hrow, hlow⟩
          case measure => simp [intOf]; omega
        · have hro := Lib.hid (hok.out.2.2 i hfn hin)
          have hin' : decide ((i : Int) ∈ told ns os f k) = false := by simpa using hin
          clear hfn hok hin
          go_wp2_with fail
          refine (in_any wf A2 c2 (told ns os f k) i (by omega) HRR.out).mono ?_
          rw [hin']
          rintro e wg ⟨rfl, rfl⟩
          clear hin'
          go_wp2_with (at_builtin; refine wpList_append_row _ rfl _ _ 28 rfl w'.heap.size 3 i0 (.int .i64 0) 1 8 Try.underlying28 hi0 hz0 hz1 hz2 rfl (by decide) _ _ rfl (hrow.alloc _) (fun _ => rfl) _ (i : Int) rfl (cells_new _ _ _) (by simp [i64c, Value.oneCell']) (by unfold maxLen; omega) (by omega) (by simp; omega) ?_; intro v' w1 hrow' hgrow)
          have hlow' := low_row hlow hrow (Nat.le_refl _) hsz hgrow
          go_roundw
          case rel => exact ⟨k + 1, by omega, by go_num, by rw [hro.out]; exact hrow', hlow'⟩
          case measure => simp [intOf]; omega
    · have hkl : k = os.length := by omega
      subst hkl
      have HO' := HO
      clear HO
      generalize hT : told ns os f os.length = T at *
      clear hT
      have hrow0 : Row wr w'.heap.size 3 1 i64c u7 (T ++ restTo T 0) := by rw [restTo_zero, List.append_nil]; exact hrow
      go_wp2_with fail
      go_loopw [7, 11] (fun v iv wr => ∃ k : Nat, k ≤ rs.length ∧ iv = .int .i64 k ∧ Row wr w'.heap.size 3 1 i64c v (T ++ restTo T k) ∧ Below w'.heap.size w' wr) (fun _ iv _ => rs.length - (intOf iv).toNat)
      case atStart => exact ⟨0, by omega, rfl, hrow0, hlow⟩
      case round =>
        clear hrow hlow hrow0
        obtain ⟨k, hk, rfl, hrow, hlow⟩ := hrel
        have hsz := hlow.size
        have hlr := restTo_len T k
        have hll : (T ++ restTo T k).length ≤ 80 := by rw [List.length_append]; omega
        by_cases hlt : k < rs.length
        · have hmem : ((k : Int) ∈ T ++ restTo T k) ↔ (k : Int) ∈ T := by
            rw [List.mem_append, restTo_mem]; constructor
            · rintro (h | h); exact h; omega
            · exact .inl
          obtain ⟨A2, c2, rfl, hrr⟩ := hrow.reads
          have HRR := Lib.hid hrr
          clear hrr
          by_cases hin : (k : Int) ∈ T
          · have hro := Lib.hid (show T ++ restTo T (k + 1) = T ++ restTo T k by rw [restTo_old hin])
            have hin' : decide ((k : Int) ∈ T ++ restTo T k) = true := by rw [decide_eq_true_eq, hmem]; exact hin
            clear hmem hin hlr
            generalize T ++ restTo T k = L at *
            go_wp2_with fail
            refine (in_any wr A2 c2 L k (by omega) HRR.out).mono ?_
            rw [hin']
            rintro e wg ⟨rfl, rfl⟩
            clear hin'
            go_wp2
            go_roundw
            case rel => exact ⟨k + 1, by omega, by go_num, by rw [hro.out]; exact hrow, hlow⟩
            case measure => simp [intOf]; omega
          · have hro := Lib.hid (show T ++ restTo T (k + 1) = (T ++ restTo T k) ++ [(k : Int)] by rw [restTo_new hin, List.append_assoc])
            have hin' : decide ((k : Int) ∈ T ++ restTo T k) = false := by rw [decide_eq_false_iff_not, hmem]; exact hin
            clear hmem hin hlr
            generalize T ++ restTo T k = L at *
            go_wp2_with fail
            refine (in_any wr A2 c2 L k (by omega) HRR.out).mono ?_
            rw [hin']
            rintro e wg ⟨rfl, rfl⟩
            clear hin'
            go_wp2_with (at_builtin; refine wpList_append_row _ rfl _ _ 28 rfl w'.heap.size 3 i0 (.int .i64 0) 1 8 Try.underlying28 hi0 hz0 hz1 hz2 rfl (by decide) _ _ rfl (hrow.alloc _) (fun _ => rfl) _ (k : Int) rfl (cells_new _ _ _) (by simp [i64c, Value.oneCell']) (by unfold maxLen; omega) (by omega) (by simp; omega) ?_; intro v' w1 hrow' hgrow)
            have hlow' := low_row hlow hrow (Nat.le_refl _) hsz hgrow
            go_roundw
            case rel => exact ⟨k + 1, by omega, by go_num, by rw [hro.out]; exact hrow', hlow'⟩
            case measure => simp [intOf]; omega
        · have hkm : k = rs.length := by omega
          subst hkm
          go_wp2
          go_ret
          exact ⟨_, rfl, by rw [HNS.out, HO'.out]; exact hrow, hlow⟩
end Go.Proofs.Yteddmjfpbdihiaa.walk
