/- Entries of a registry: whether two lists are the same. -/
import Derived.Test.YtdnefcpmechjkaaRgC
namespace Go.Proofs.Ytdnefcpmechjkaa.rgy
open Go.ChangeShapes Go.WideShapes Go.ChangeAt Go.RowKit Go.Proofs.Aid Go.Proofs.Ytdnefcpmechjkaa.name Go.Proofs.Ytdnefcpmechjkaa.reg
theorem data_eq {a b : ByteArray} (h : a.toList = b.toList) : a = b := by
  apply ByteArray.ext; apply Array.toList_inj.1; rw [← Lib.toList_data, ← Lib.toList_data]; exact h
theorem neqE_at {x y : En} (h : ¬ x = y) (w : World) : (binOp .neq 35 x.val y.val).run Try.prog w = .ok (.bool true) w := by
  obtain ⟨k, n, b, v⟩ := x
  obtain ⟨k2, m, c, u⟩ := y
  go_simp
  intro h0 h1 h2 h3
  refine h ?_
  rw [data_eq h0, h1, data_eq h2, data_eq h3]
theorem neqE_same (x : En) (w : World) : (binOp .neq 35 x.val x.val).run Try.prog w = .ok (.bool false) w := by
  obtain ⟨k, n, b, v⟩ := x
  go_simp
theorem same_no {xs ys : List En} {k : Nat} (h1 : k < xs.length) (h2 : k < ys.length) (h : ¬ xs[k] = ys[k]) : decide (xs = ys) = false := by
  rw [decide_eq_false_iff_not]; rintro rfl; exact h rfl
theorem same_yes {xs ys : List En} (hl : xs.length = ys.length) (h : ∀ j (h1 : j < xs.length) (h2 : j < ys.length), xs[j] = ys[j]) : decide (xs = ys) = true := by
  rw [decide_eq_true_eq]; exact List.ext_getElem hl fun j h1 h2 => h j h1 h2
set_option maxRecDepth 100000 in
set_option maxHeartbeats 4000000 in
theorem rsame_any (w : World) (A B : Option Addr) (ca cb : Nat) (xs ys : List En) (hla : xs.length ≤ 1000000) (hlb : ys.length ≤ 1000000) (h1 : Reads w w.heap.size 4 A xs.length (xs.flatMap En.cells)) (h2 : Reads w w.heap.size 4 B ys.length (ys.flatMap En.cells)) :
    Calls Try.prog 13 #[.slice A xs.length ca, .slice B ys.length cb] w fun e w' => e = .returned (.bool (decide (xs = ys))) ∧ Below w.heap.size w w' := by
  have H1 := Lib.hid h1
  have H2 := Lib.hid h2
  clear h1 h2
  by_cases hlen : xs.length = ys.length
  · have hL := Lib.hid hlen
    have hLb : (xs.length != ys.length) = false := by simpa using hlen
    have hLb2 : ((xs.length : Int) != (ys.length : Int)) = false := by rw [bne_eq_false_iff_eq]; omega
    clear hlen
    go_enter Try.func13, Try.ntmps13
    go_wp2_with fail
    go_loopw [5] (fun iv w' => ∃ k : Nat, k ≤ xs.length ∧ iv = .int .i64 k ∧ Hid (∀ j (h1 : j < xs.length) (h2 : j < ys.length), j < k → xs[j] = ys[j]) ∧ Hid (Below w.heap.size w w')) (fun iv _ => xs.length - (intOf iv).toNat)
    case atStart => exact ⟨0, by omega, rfl, fun _ _ _ h => by omega, Below.refl _ _⟩
    case round =>
      obtain ⟨k, hk, rfl, hI, hb⟩ := hrel
      by_cases hlt : k < xs.length
      · have hltb : k < ys.length := by have := hL.out; omega
        obtain ⟨a1, q1, -, c0, c1, c2, c3⟩ := elemE (H1.out.below hb.out) hlt
        obtain ⟨a2, q2, -, d0, d1, d2, d3⟩ := elemE (H2.out.below hb.out) hltb
        subst q1 q2
        have hno := Lib.hid (fun h => same_no hlt hltb h)
        have hyes : Hid (xs[k] = ys[k] → ∀ j (h1 : j < xs.length) (h2 : j < ys.length), j < k + 1 → xs[j] = ys[j]) := fun h j h1 h2 hj => by
          by_cases e : j < k
          · exact hI.out j h1 h2 e
          · have : j = k := by omega
            subst this; exact h
        clear hI
        generalize xs[k] = x at *
        generalize ys[k] = y at *
        by_cases he : x = y
        · have hI2 := Lib.hid (hyes.out he)
          subst he
          have hq := neqE_same x
          clear hno hyes
          go_wp2_with fail
          go_quiet (fail)
          have hb2 : ∀ n, Hid (Below w.heap.size w (World.drewN _ n)) := fun n => below_drewN hb.out n
          go_wp2
          go_roundw
          case rel => exact ⟨k + 1, by omega, by go_num, hI2, hb2 _⟩
          case measure => simp [intOf]; omega
        · have hN := Lib.hid (hno.out he)
          have hq := neqE_at he
          clear hno hyes he
          go_wp2_with fail
          go_quiet (fail)
          have hb2 : ∀ n, Hid (Below w.heap.size w (World.drewN _ n)) := fun n => below_drewN hb.out n
          go_wp2
          go_ret
          exact ⟨reg.ret_bool (by rw [hN.out]), (hb2 _).out⟩
      · have hN := Lib.hid (same_yes hL.out (fun j h1 h2 => hI.out j h1 h2 (by omega)))
        go_wp2
        go_ret
        exact ⟨reg.ret_bool (by rw [hN.out]), hb.out⟩
  · have hN := Lib.hid (show decide (xs = ys) = false by rw [decide_eq_false_iff_not]; rintro rfl; exact hlen rfl)
    have hLb : (xs.length != ys.length) = true := by simpa using hlen
    have hLb2 : ((xs.length : Int) != (ys.length : Int)) = true := by rw [bne_iff_ne]; omega
    go_enter Try.func13, Try.ntmps13
    go_wp2
    go_ret
    exact ⟨reg.ret_bool (by rw [hN.out]), Below.refl _ _⟩
set_option maxRecDepth 100000 in
set_option maxHeartbeats 4000000 in
theorem equal_any (w : World) (A B : Option Addr) (ca cb : Nat) (xs ys : List En) (hla : xs.length ≤ 1000000) (hlb : ys.length ≤ 1000000) (h1 : Reads w w.heap.size 4 A xs.length (xs.flatMap En.cells)) (h2 : Reads w w.heap.size 4 B ys.length (ys.flatMap En.cells)) :
    Calls Try.prog 35 #[.slice A xs.length ca, .slice B ys.length cb] w fun e w' => e = .returned (.bool (decide (xs = ys))) ∧ Below w.heap.size w w' := by
  have H1 := Lib.hid h1
  have H2 := Lib.hid h2
  clear h1 h2
  by_cases hlen : xs.length = ys.length
  · have hL := Lib.hid hlen
    have hLb : (xs.length != ys.length) = false := by simpa using hlen
    have hLb2 : ((xs.length : Int) != (ys.length : Int)) = false := by rw [bne_eq_false_iff_eq]; omega
    clear hlen
    go_enter Try.func35, Try.ntmps35
    go_wp2_with fail
    go_loopw [5, 13] (fun _ iv w' => ∃ k : Nat, k ≤ xs.length ∧ iv = .int .i64 k ∧ Hid (∀ j (h1 : j < xs.length) (h2 : j < ys.length), j < k → xs[j] = ys[j]) ∧ Hid (Below w.heap.size w w')) (fun _ iv _ => xs.length - (intOf iv).toNat)
    case atStart => exact ⟨0, by omega, rfl, fun _ _ _ h => by omega, Below.refl _ _⟩
    case round =>
      obtain ⟨k, hk, rfl, hI, hb⟩ := hrel
      by_cases hlt : k < xs.length
      · have hltb : k < ys.length := by have := hL.out; omega
        obtain ⟨a1, q1, -, c0, c1, c2, c3⟩ := elemE (H1.out.below hb.out) hlt
        obtain ⟨a2, q2, -, d0, d1, d2, d3⟩ := elemE (H2.out.below hb.out) hltb
        subst q1 q2
        have hno := Lib.hid (fun h => same_no hlt hltb h)
        have hyes : Hid (xs[k] = ys[k] → ∀ j (h1 : j < xs.length) (h2 : j < ys.length), j < k + 1 → xs[j] = ys[j]) := fun h j h1 h2 hj => by
          by_cases e : j < k
          · exact hI.out j h1 h2 e
          · have : j = k := by omega
            subst this; exact h
        clear hI
        generalize xs[k] = x at *
        generalize ys[k] = y at *
        by_cases he : x = y
        · have hI2 := Lib.hid (hyes.out he)
          subst he
          have hq := neqE_same x
          clear hno hyes
          go_wp2_with fail
          go_quiet (fail)
          have hb2 : ∀ n, Hid (Below w.heap.size w (World.drewN _ n)) := fun n => below_drewN hb.out n
          go_wp2
          go_roundw
          case rel => exact ⟨k + 1, by omega, by go_num, hI2, hb2 _⟩
          case measure => simp [intOf]; omega
        · have hN := Lib.hid (hno.out he)
          have hq := neqE_at he
          clear hno hyes he
          go_wp2_with fail
          go_quiet (fail)
          have hb2 : ∀ n, Hid (Below w.heap.size w (World.drewN _ n)) := fun n => below_drewN hb.out n
          go_wp2
          go_ret
          exact ⟨reg.ret_bool (by rw [hN.out]), (hb2 _).out⟩
      · have hN := Lib.hid (same_yes hL.out (fun j h1 h2 => hI.out j h1 h2 (by omega)))
        go_wp2
        go_ret
        exact ⟨reg.ret_bool (by rw [hN.out]), hb.out⟩
  · have hN := Lib.hid (show decide (xs = ys) = false by rw [decide_eq_false_iff_not]; rintro rfl; exact hlen rfl)
    have hLb : (xs.length != ys.length) = true := by simpa using hlen
    have hLb2 : ((xs.length : Int) != (ys.length : Int)) = true := by rw [bne_iff_ne]; omega
    go_enter Try.func35, Try.ntmps35
    go_wp2
    go_ret
    exact ⟨reg.ret_bool (by rw [hN.out]), Below.refl _ _⟩
theorem same_any (w : World) (A B : Option Addr) (ca cb : Nat) (xs ys : List En) (hla : xs.length ≤ 1000000) (hlb : ys.length ≤ 1000000) (h1 : Reads w w.heap.size 4 A xs.length (xs.flatMap En.cells)) (h2 : Reads w w.heap.size 4 B ys.length (ys.flatMap En.cells)) :
    Calls Try.prog 18 #[.slice A xs.length ca, .slice B ys.length cb] w fun e w' => e = .returned (.bool (decide (xs = ys))) ∧ Below w.heap.size w w' := by
  have H := Lib.hid (equal_any w A B ca cb xs ys hla hlb h1 h2)
  clear h1 h2
  generalize decide (xs = ys) = d at *
  go_enter Try.func18, Try.ntmps18
  go_wp2_with fail
  refine H.out.mono ?_
  rintro e w1 ⟨rfl, hb⟩
  go_wp2
  go_ret
  exact ⟨rfl, hb⟩
end Go.Proofs.Ytdnefcpmechjkaa.rgy
