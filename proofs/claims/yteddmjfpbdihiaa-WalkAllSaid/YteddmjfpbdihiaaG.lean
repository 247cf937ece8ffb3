/- The walk of WalkAll. -/
import Derived.Test.YteddmjfpbdihiaaF
namespace Go.Proofs.Yteddmjfpbdihiaa.walk
open Go.ChangeShapes Go.WideShapes Go.ChangeAt Go.RowKit Go.Proofs.Aid
open Go.Proofs.Yteddmjfpbdihiaa.ints (i64c)
def Dist (rs : List R34) (n : Nat) : Prop := ∀ i (_ : i < rs.length) j (_ : j < rs.length), i < n → j < i → rs[i].name ≠ rs[j].name
theorem Dist.all {rs : List R34} (h : Dist rs rs.length) : ∀ i (_ : i < (rs.map R34.name).length) j (_ : j < (rs.map R34.name).length), (rs.map R34.name)[i] = (rs.map R34.name)[j] → i = j := by
  intro i hi j hj e
  simp only [List.length_map] at hi hj
  simp only [List.getElem_map] at e
  rcases Nat.lt_trichotomy i j with h1 | h1 | h1
  · exact absurd e.symm (h j hj i hi hj h1)
  · exact h1
  · exact absurd e (h i hi j hj hi h1)
def ownsTo (os : List R9) (k : Nat) (s : ByteArray) : Bool := (os.take k).any fun r => decide (r.v = s)
theorem ownsTo_succ {os : List R9} {k : Nat} (h : k < os.length) (s : ByteArray) : ownsTo os (k + 1) s = (ownsTo os k s || decide (os[k].v = s)) := by
  unfold ownsTo
  rw [List.take_succ_eq_append_getElem h, List.any_append]; simp
theorem ownsTo_all (os : List R9) (s : ByteArray) : ownsTo os os.length s = ownsB os s := by unfold ownsTo ownsB; rw [List.take_length]
set_option maxRecDepth 100000 in
set_option maxHeartbeats 8000000 in
theorem all_walk (W : World) (A B : Option Addr) (ca cb : Nat) (os : List R9) (rs : List R34) (part : Int) (hp0 : 0 ≤ part) (hp1 : part ≤ 65535) (hlo : os.length ≤ maxLen) (hlr : rs.length ≤ maxLen) (h1 : Reads W W.heap.size 1 A os.length (os.flatMap R9.cells)) (h2 : Reads W W.heap.size 4 B rs.length (rs.flatMap R34.cells))
    (hs1 : ∀ r ∈ os, r.v.size ≤ maxLen) (hs2 : ∀ r ∈ rs, r.ok W) :
    Calls Try.prog 4 #[.slice A os.length ca, .slice B rs.length cb, .int .u16 part] W fun e w' => e = .returned (.bool true) ∧ Below W.heap.size W w' := by
  have H1 := Lib.hid h1
  have H2 := Lib.hid h2
  have HS1 := Lib.hid hs1
  have HS2 := Lib.hid hs2
  have HL1 := Lib.hid hlo
  have HL2 := Lib.hid hlr
  clear h1 h2 hs1 hs2 hlo hlr
  go_enter Try.func4, Try.ntmps4
  go_wp2_with fail
  refine (few_any W A ca os HL1.out H1.out HS1.out).mono ?_
  rintro e w1 ⟨b, rfl, rfl, hb⟩
  cases b
  · clear hb
    go_wp2_with fail
    refine (awake_any w1).mono ?_
    rintro e w2 ⟨rfl, hlow⟩
    go_wp2
    go_ret
    exact ⟨rfl, hlow⟩
  · have ho40 := hb rfl
    clear hb
    go_wp2_with fail
    refine (mfew_any w1 B cb rs HL2.out H2.out HS2.out).mono ?_
    rintro e w2 ⟨b, rfl, rfl, hb⟩
    cases b
    · clear hb
      go_wp2_with fail
      refine (awake_any w2).mono ?_
      rintro e w3 ⟨rfl, hlow⟩
      go_wp2
      go_ret
      exact ⟨rfl, hlow⟩
    · have hr40 := hb rfl
      clear hb
      go_wp2_with fail
      go_loopw [7, 8] (fun iv _ wr => ∃ i : Nat, i ≤ rs.length ∧ iv = .int .i64 i ∧ Hid (Dist rs i) ∧ Below w2.heap.size w2 wr) (fun iv _ _ => rs.length - (intOf iv).toNat)
      case atStart => exact ⟨0, by omega, rfl, fun _ _ _ _ h => by omega, Below.refl _ _⟩
      case round =>
        obtain ⟨i, hi, rfl, hD, hlow⟩ := hrel
        by_cases hlt : i < rs.length
        · go_wp2_with fail
          go_loopw [8] (fun kv wr => ∃ k : Nat, k ≤ i ∧ kv = .int .i64 k ∧ Hid (∀ j (_ : j < rs.length), j < k → rs[i].name ≠ rs[j].name) ∧ Below w2.heap.size w2 wr) (fun kv _ => i - (intOf kv).toNat)
          case atStart => exact ⟨0, by omega, rfl, fun _ _ h => by omega, hlow⟩
          case round =>
            clear hlow
            obtain ⟨k, hk, rfl, hN, hlow⟩ := hrel
            by_cases hki : k < i
            · obtain ⟨a1, q1, -, e1, -⟩ := elem34 (H2.out.below hlow) hlt
              obtain ⟨a2, q2, -, e2, -⟩ := elem34 (H2.out.below hlow) (by omega : k < rs.length)
              subst q1; injection q2 with q2; subst q2
              have hb2 : ∀ n, Below w2.heap.size w2 (World.drewN _ n) := fun n => below_drewN hlow n
              by_cases hx : rs[i].name = rs[k].name
              · rw [hx] at e1
                generalize rs[k].name = y at *
                clear hx
                go_wp2_with fail
                go_quiet (fail)
                go_wp2_with fail
                refine (awake_any _).mono ?_
                rintro e w3 ⟨rfl, hl3⟩
                have hl4 := (hb2 _).trans (hl3.mono (hb2 _).size)
                go_wp2
                go_ret
                exact ⟨rfl, hl4⟩
              · have hN2 : Hid (∀ j (_ : j < rs.length), j < k + 1 → rs[i].name ≠ rs[j].name) := fun j h hj => by
                  by_cases e : j < k
                  · exact hN.out j h e
                  · have : j = k := by omega
                    subst this; exact hx
                have hx' := bytes_ne hx
                clear hx
                go_wp2_with fail
                go_quiet (fail)
                go_wp2
                go_roundw
                case rel => exact ⟨k + 1, by omega, by go_num, hN2, hb2 _⟩
                case measure => simp [intOf]; omega
            · have hD2 : Hid (Dist rs (i + 1)) := fun a ha b hb h1 h2 => by
                by_cases e : a < i
                · exact hD.out a ha b hb e h2
                · have : a = i := by omega
                  subst this; exact hN.out b hb (by omega)
              go_wp2
              go_roundw
              case rel => exact ⟨i + 1, by omega, by go_num, hD2, hlow⟩
              case measure => simp [intOf]; omega
        · have hil : i = rs.length := by omega
          subst hil
          have hdist := Lib.hid hD.out.all
          have hsz := hlow.size
          have H1' := Lib.hid (Reads.more (H1.out.below hlow) hsz)
          have H2' := Lib.hid (Reads.more (H2.out.below hlow) hsz)
          clear hD
          go_wp2_with fail
          refine (order_any wr A B ca cb os rs part ho40 hr40 H1'.out H2'.out HS1.out (fun r hr => (HS2.out r hr).1)).mono ?_
          rintro e w3 ⟨v3, rfl, hrow3, hl3⟩
          have hlen := order_len (rs.map R34.name) os part
          rw [List.length_map] at hlen
          have HRound := Lib.hid (order_round (rs.map R34.name) os part)
          have HND := Lib.hid (order_nodup (rs.map R34.name) os part)
          have HRng := Lib.hid (fun x => order_rng (ns := rs.map R34.name) (os := os) (part := part) (x := x))
          have HOw := Lib.hid (fun i p => order_owns (ns := rs.map R34.name) (os := os) (part := part) hdist.out (i := i) (p := p))
          have hl3' := hlow.trans (hl3.mono hsz)
          have hsz3 := hl3'.size
          have H1'' := Lib.hid (Reads.more (H1.out.below hl3') hsz3)
          have H2'' := Lib.hid (Reads.more (H2.out.below hl3') hsz3)
          clear H1' H2' hl3 hlow
          generalize (told (rs.map R34.name) os (frm part os.length) os.length).length = t at HOw
          have hnl : (rs.map R34.name).length = rs.length := by simp
          generalize order (rs.map R34.name) os part = L at *
          obtain ⟨A3, c3, rfl, hc3, hr3⟩ := hrow3.reads'
          have HR3 := Lib.hid hr3
          clear hr3 hrow3
          have hne : ((L.length : Int) != (rs.length : Int)) = false := by simp [hlen]
          have hL40 : L.length ≤ 40 := by omega
          have HLen := Lib.hid hlen
          have HNL := Lib.hid hnl
          clear hlen hnl
          go_wp2_with fail
          refine (order_any w3 A B ca cb os rs (part + os.length) ho40 hr40 H1''.out H2''.out HS1.out (fun r hr => (HS2.out r hr).1)).mono ?_
          rw [HRound.out]
          rintro e w4 ⟨v4, rfl, hrow4, hl4⟩
          obtain ⟨A4, c4, rfl, hr4⟩ := hrow4.reads
          have HR4 := Lib.hid hr4
          have HR3' := Lib.hid (Reads.more (HR3.out.below hl4) hl4.size)
          have hl4' := hl3'.trans (hl4.mono hsz3)
          clear hr4 hrow4 HR3 hl4 hl3' H1'' H2''
          go_wp2_with fail
          refine (ints.sameInts_same w4 A3 A4 c3 c4 L (by omega) HR3'.out HR4.out).mono ?_
          rintro e w5 ⟨rfl, hl5⟩
          have hl5' := hl4'.trans (hl5.mono hl4'.size)
          have HR5 := Lib.hid (Reads.more (HR3'.out.below hl5) hl5.size)
          clear HR3' HR4 hl5 hl4' hne
          have hsz5 := hl5'.size
          have H15 := Lib.hid (Reads.more (H1.out.below hl5') hsz5)
          have H25 := Lib.hid (Reads.more (H2.out.below hl5') hsz5)
          have h0 : decide (t < 0) = false := by simp
          have hlb : Below w5.heap.size w5 w5 := Below.refl _ _
          go_wp2_with fail
          go_loopw [10, 11, 12, 13] (fun nv iv _ _ wr => ∃ i : Nat, i ≤ L.length ∧ iv = .int .i64 i ∧ nv = .bool (decide (t < i)) ∧ Below w5.heap.size w5 wr) (fun _ iv _ _ _ => L.length - (intOf iv).toNat)
          case atStart => exact ⟨0, by omega, rfl, by rw [h0], hlb⟩
          case round =>
            clear hlb h0
            obtain ⟨i, hi, rfl, rfl, hlow⟩ := hrel
            by_cases hlt : i < L.length
            · obtain ⟨a3, q3, -, e3⟩ := (HR5.out.below hlow).elem1 hlt
              subst q3
              have hmem := List.getElem_mem hlt
              have hr := HRng.out _ hmem
              have hnt := nodup_take HND.out hlt
              obtain ⟨p, hp⟩ := Int.eq_ofNat_of_zero_le hr.1
              have hpn : p < (rs.map R34.name).length := by omega
              have hpl : p < rs.length := by have := HNL.out; omega
              have how := HOw.out i p (by rw [List.getElem?_eq_getElem hlt, hp]) hpn
              have hnm : (rs.map R34.name)[p] = rs[p].name := by simp
              rw [hnm] at how
              rw [hp] at e3 hnt
              have HPe := Lib.hid hp
              have HQ : Hid (∀ n, Calls Try.prog 13 #[.slice (some a3) i c3, .int .i64 p] (wr.drewN n) fun e w' => e = .returned (.bool false) ∧ w' = wr.drewN n) := fun n => by
                have h := in_any (wr.drewN n) (some a3) c3 (L.take i) p (by rw [List.length_take]; omega) (Reads.take (f := i64c) (fun _ => rfl) (((HR5.out.below hlow).more hlow.size).drewN n) hi)
                rw [List.length_take, Nat.min_eq_left hi, show decide ((p : Int) ∈ L.take i) = false by simpa using hnt] at h
                exact h
              clear hmem hr hnt hp hnm
              have hb2 : ∀ n, Below w5.heap.size w5 (World.drewN _ n) := fun n => below_drewN hlow n
              have hc3' : i ≤ c3 := by omega
              have hd1 : decide ((rs.length : Int) ≤ p) = false := by simp; omega
              go_wp2_with fail
              go_quiet ((go_at_call 13; exact Calls.quiet_of_same (HQ.out _)))
              have hlow1 := hb2 nq
              clear HQ hd1 hlow hb2 e3
              generalize hwn : wr.drewN nq = wn at hlow1 ⊢
              clear hwn
              obtain ⟨name, hname⟩ : ∃ s, s = rs[p].name := ⟨_, rfl⟩
              rw [← hname] at how
              have HName := Lib.hid hname
              clear hname
              have HOwn := Lib.hid how
              clear how
              have hz0 : Hid (ownsTo os 0 name = false) := by unfold ownsTo; rfl
              have hz1 := hz0.out.symm
              go_wp2_with fail
              go_loopw [12, 13] (fun ov kv wr => ∃ k : Nat, k ≤ os.length ∧ kv = .int .i64 k ∧ ov = .bool (ownsTo os k name) ∧ Below w5.heap.size w5 wr) (fun _ kv _ => os.length - (intOf kv).toNat)
              case atStart => exact ⟨0, by omega, rfl, by rw [hz0.out], hlow1⟩
              case round =>
                clear hz1 hlow1 hz0
                obtain ⟨k, hk, rfl, rfl, hlow⟩ := hrel
                by_cases hklt : k < os.length
                · have hsu := Lib.hid (ownsTo_succ hklt name)
                  cases ho : ownsTo os k name with
                  | true =>
                    have hs2 := Lib.hid (show ownsTo os (k + 1) name = true by rw [hsu.out, ho]; rfl)
                    have hb2 : ∀ n, Below w5.heap.size w5 (World.drewN _ n) := fun n => below_drewN hlow n
                    clear ho hsu
                    go_wp2_with fail
                    go_quiet (fail)
                    go_wp2
                    go_roundw
                    case rel => exact ⟨k + 1, by omega, by go_num, by rw [hs2.out], hb2 _⟩
                    case measure => simp [intOf]; omega
                  | false =>
                    obtain ⟨a1, q1, -, e1⟩ := elem9 (H15.out.below hlow) hklt
                    obtain ⟨a2, q2, -, e2⟩ := (HR5.out.below hlow).elem1 hlt
                    obtain ⟨a4, q4, -, e4, -⟩ := elem34 (H25.out.below hlow) hpl
                    subst q1; injection q2 with q2; subst q2; subst q4
                    rw [← HName.out] at e4
                    rw [HPe.out] at e2
                    have hb2 : ∀ n, Below w5.heap.size w5 (World.drewN _ n) := fun n => below_drewN hlow n
                    by_cases hx : os[k].v = name
                    · have hs2 := Lib.hid (show ownsTo os (k + 1) name = true by rw [hsu.out, ho]; simpa using hx)
                      rw [hx] at e1
                      clear ho hsu hx
                      go_wp2_with fail
                      go_quiet (fail)
                      go_wp2
                      go_roundw
                      case rel => exact ⟨k + 1, by omega, by go_num, by rw [hs2.out], hb2 _⟩
                      case measure => simp [intOf]; omega
                    · have hs2 := Lib.hid (show ownsTo os (k + 1) name = false by rw [hsu.out, ho]; simpa using hx)
                      have hx' := bytes_ne hx
                      clear ho hsu hx
                      generalize os[k].v = y at *
                      go_wp2_with fail
                      go_quiet (fail)
                      go_wp2
                      go_roundw
                      case rel => exact ⟨k + 1, by omega, by go_num, by rw [hs2.out], hb2 _⟩
                      case measure => simp [intOf]; omega
                · have hkl : k = os.length := by omega
                  subst hkl
                  rw [ownsTo_all, HOwn.out]
                  by_cases hit : i < t
                  · have x1 : decide (i < t) = true := by simpa using hit
                    have x2 : decide (t < i) = false := by simp; omega
                    have x3 := Lib.hid (show decide (t < i + 1) = false by simp; omega)
                    rw [x1, x2]
                    clear x1 x2
                    go_wp2
                    go_roundw
                    case rel => exact ⟨i + 1, by omega, by go_num, by rw [x3.out], hlow⟩
                    case measure => simp [intOf]; omega
                  · have x1 : decide (i < t) = false := by simpa using hit
                    have x3 := Lib.hid (show decide (t < i + 1) = true by simp; omega)
                    rw [x1]
                    clear x1
                    cases hti : decide (t < i)
                    all_goals
                      clear hti
                      go_wp2
                      go_roundw
                      case rel => exact ⟨i + 1, by omega, by go_num, by rw [x3.out], hlow⟩
                      case measure => simp [intOf]; omega
            · go_wp2_with fail
              refine (awake_any wr).mono ?_
              rintro e w8 ⟨rfl, hl8⟩
              have hl6 := hl5'.trans (hlow.mono hsz5)
              have hl8' := hl6.trans (hl8.mono hl6.size)
              go_wp2
              go_ret
              exact ⟨rfl, hl8'⟩
theorem all_all (W : World) (v0 : Value) (v1 : Value) (v2 : Value) (h0 : V22 W v0) (h1 : V23 W v1) (h2 : V32 W v2) :
    Calls Try.prog 4 #[v0, v1, v2] W fun e w' => e = .returned (.bool true) ∧ Below W.heap.size W w' := by
  obtain ⟨A, n, cap, os, rfl, a1, a2, rfl, hR, hok⟩ := s22 h0
  obtain ⟨B, m, cap2, rs, rfl, b1, b2, rfl, hR2, hok2⟩ := s23 h1
  obtain ⟨⟨part⟩, rfl, hw⟩ := h2
  have hw' : 0 ≤ part ∧ part ≤ 65535 := by simpa [R32.ok, Lit.wf, IntKind.min, IntKind.max, IntKind.signed, IntKind.bits] using hw
  exact all_walk W A B cap cap2 os rs part hw'.1 hw'.2 (by omega) (by omega) hR hR2 hok hok2
end Go.Proofs.Yteddmjfpbdihiaa.walk
