/- NameIs: whether any text is a name, a key, a place, a path, or a number's digits. -/
import Derived.Test.YtkkihbnaaaajeaaDoorNmA
namespace Go.Proofs.YtkkihbnaaaajeaaDoor.nm
open Go.ChangeShapes Go.WideShapes Go.ChangeAt Go.RowKit Go.Proofs.Aid Go.Proofs.YtkkihbnaaaajeaaDoor.seg Go.Proofs.YtkkihbnaaaajeaaDoor.name Go.Proofs.YtkkihbnaaaajeaaDoor.texts
theorem join_none : joinS [] = ⟨#[]⟩ := rfl
set_option maxRecDepth 20000 in
set_option maxHeartbeats 4000000 in
theorem is_walk (W : World) (s t : ByteArray) (HL : Hid (Lets W)) (hs : s.size ≤ maxLen) (ht : t.size ≤ maxLen) :
    Calls Tryd.prog 3 #[.string s, .string t] W fun e w' => e = .returned (.bool true) ∧ Below W.heap.size W w' := by
  unfold maxLen at hs ht
  by_cases h1 : s.size ≤ 200
  · by_cases h2 : t.size ≤ 200
    · have hl0 : Hid (Below W.heap.size W W) := Below.refl _ _
      go_enter Tryd.func3, Tryd.ntmps3
      go_wp2_with fail
      refine Calls.mono (split_any s W (by omega) HL) ?_
      rintro e w1 ⟨rfl, hb1⟩
      have hl1 := Lib.hid (hl0.out.trans (hb1.mono hl0.out.size))
      have hL1 := Lib.hid (HL.out.next hl1.out)
      clear hb1
      have hr1 := Lib.hid (fun w => rsplit_any s w (by omega))
      unfold splitR at hr1
      unfold splitR
      generalize splitA s = sa at *
      generalize splitB s = sb at *
      generalize splitOk s = so at *
      go_wp2_with fail
      refine Calls.mono (hr1.out w1) ?_
      rintro e w2 ⟨rfl, hb2⟩
      have hl2 := Lib.hid (hl1.out.trans (hb2.mono hl1.out.size))
      have hL2 := Lib.hid (HL.out.next hl2.out)
      clear hb2
      go_wp2_with fail
      refine Calls.mono (num_any s w2 (by omega) hL2) ?_
      rintro e w3 ⟨rfl, hb3⟩
      have hl3 := Lib.hid (hl2.out.trans (hb3.mono hl2.out.size))
      have hL3 := Lib.hid (HL.out.next hl3.out)
      clear hb3
      have hr3 := Lib.hid (fun w => rnum_any s w (by omega))
      unfold numR at hr3
      unfold numR
      generalize numV s = nv at *
      generalize (num s).isSome = no at *
      go_wp2_with fail
      refine Calls.mono (hr3.out w3) ?_
      rintro e w4 ⟨rfl, hb4⟩
      have hl4 := Lib.hid (hl3.out.trans (hb4.mono hl3.out.size))
      have hL4 := Lib.hid (HL.out.next hl4.out)
      clear hb4
      go_wp2_with fail
      refine Calls.mono (is_any s w4 (by unfold maxLen; omega)) ?_
      rintro e w5 ⟨rfl, hb5⟩
      have hl5 := Lib.hid (hl4.out.trans (hb5.mono hl4.out.size))
      clear hb5
      have hr5 := Lib.hid (fun w => Go.Proofs.YtkkihbnaaaajeaaDoor.reg.rname_any s w (by unfold maxLen; omega))
      generalize isName s.data.toList = si at *
      go_wp2_with fail
      refine Calls.mono (hr5.out w5) ?_
      rintro e w6 ⟨rfl, rfl⟩
      have hk1 := Lib.hid (fun w => key_any s w (by unfold maxLen; omega))
      have hk2 := Lib.hid (fun w => rkey_any s w (by unfold maxLen; omega))
      generalize isKey s.size = sk at *
      go_wp2_with fail
      refine Calls.mono (hk1.out _) ?_
      rintro e w7 ⟨rfl, rfl⟩
      go_wp2_with fail
      refine Calls.mono (hk2.out _) ?_
      rintro e w8 ⟨rfl, rfl⟩
      have hj1 := Lib.hid (fun w => join_any s t w (by omega) (by omega))
      have hj2 := Lib.hid (fun w => rjoin_any s t w (by omega) (by omega))
      have hsl := slash_size s t
      have hp1 : Hid (∀ (w : World) (A : Option Addr) (c : Nat), Reads w w.heap.size 1 A 2 ([s, t].flatMap tc) → 2 ≤ c → Calls Tryd.prog 20 #[.slice A 2 c] w fun e w' => e = .returned (.string (slash s t)) ∧ Below w.heap.size w w') := fun w A c hR hc => path_any w A c [s, t] hR hc (by simp) (by
        rw [Array.length_toList]
        show (slash s t).size ≤ _
        omega)
      have hp2 := Lib.hid (fun (w : World) (A : Option Addr) (c : Nat) (hR : Reads w w.heap.size 1 A 2 ([s, t].flatMap tc)) => rpath2_any s t w A c hR (by omega) (by omega))
      clear hsl
      generalize slash s t = st at *
      go_wp2_with fail
      refine Calls.mono (hj1.out _) ?_
      rintro e w9 ⟨rfl, hb9⟩
      have hl9 := Lib.hid (hl5.out.trans (hb9.mono hl5.out.size))
      have hL9 := Lib.hid (HL.out.next hl9.out)
      clear hb9
      go_wp2_with fail
      refine Calls.mono (hj2.out _) ?_
      rintro e w10 ⟨rfl, rfl⟩
      go_wp2_with fail
      refine Calls.mono (parts_any s _ (by omega) hL9) ?_
      rintro e w11 ⟨A1, c1, rfl, -, hR1, hb11⟩
      have hl11 := Lib.hid (hl9.out.trans (hb11.mono hl9.out.size))
      clear hb11
      have hR1 := Lib.hid hR1
      go_wp2_with fail
      refine Calls.mono (rparts_any s w11 (by omega)) ?_
      rintro e w12 ⟨A2, c2, rfl, -, hR2, hb12⟩
      have hl12 := Lib.hid (hl11.out.trans (hb12.mono hl11.out.size))
      have hR1' := Lib.hid (hR1.out.more_below hb12)
      have hR2 := Lib.hid hR2
      clear hb12 hR1
      have hpl : Hid ((partsS s).length ≤ 1099511627776) := by
        show (strs (parts s.data.toList)).length ≤ _
        rw [strs_length]
        have := parts_le s
        omega
      go_wp2_with fail
      refine Calls.mono (sameTexts_same w12 A1 A2 c1 c2 (partsS s) hpl.out hR1'.out hR2.out) ?_
      rintro e w13 ⟨rfl, hb13⟩
      have hl13 := Lib.hid (hl12.out.trans (hb13.mono hl12.out.size))
      clear hb13 hR1' hR2
      go_wp2_with fail
      refine Calls.mono (hp1.out (w13.alloc (.cells #[.string s, .string t] 9)) (some ⟨w13.heap.size, 0, none⟩) 2 (lit1 (f := tc) w13 9 [s, t] (fun _ => rfl)) (by omega)) ?_
      rintro e w14 ⟨rfl, hb14⟩
      have hl14 := Lib.hid (hl13.out.trans ((below_lit w13 _).trans (hb14.mono (by simp)) |>.mono hl13.out.size))
      clear hb14
      go_wp2_with fail
      refine Calls.mono (hp2.out (w14.alloc (.cells #[.string s, .string t] 9)) (some ⟨w14.heap.size, 0, none⟩) 2 (lit1 (f := tc) w14 9 [s, t] (fun _ => rfl))) ?_
      rintro e w15 ⟨rfl, rfl⟩
      have hl15 := Lib.hid (hl14.out.trans ((below_lit w14 (.cells #[.string s, .string t] 9)).mono hl14.out.size))
      generalize w14.alloc (.cells #[.string s, .string t] 9) = w16 at *
      go_wp2_with fail
      refine Calls.mono (path_any w16 none 0 [] Reads.none_ (by simp) (by simp) (by simp [join_none])) ?_
      rw [join_none]
      rintro e w17 ⟨rfl, hb17⟩
      have hl17 := Lib.hid (hl15.out.trans (hb17.mono hl15.out.size))
      have hL17 := Lib.hid (HL.out.next hl17.out)
      clear hb17
      go_wp2_with fail
      refine Calls.mono (awake_any w17 hL17) ?_
      rintro e w18 ⟨rfl, hb18⟩
      have hl18 := Lib.hid (hl17.out.trans (hb18.mono hl17.out.size))
      go_wp2
      go_ret
      exact ⟨rfl, hl18.out⟩
    · go_enter Tryd.func3, Tryd.ntmps3
      go_wp2_with fail
      refine Calls.mono (awake_any W HL) ?_
      rintro e w1 ⟨rfl, hb1⟩
      go_wp2
      go_ret
      exact ⟨rfl, hb1⟩
  · go_enter Tryd.func3, Tryd.ntmps3
    go_wp2_with fail
    refine Calls.mono (awake_any W HL) ?_
    rintro e w1 ⟨rfl, hb1⟩
    go_wp2
    go_ret
    exact ⟨rfl, hb1⟩
theorem is_all (W : World) (v0 : Value) (v1 : Value) (h0 : V9 W v0) (h1 : V9 W v1) (HL : Hid (Lets W)) :
    Calls Tryd.prog 3 #[v0, v1] W fun e w' => e = .returned (.bool true) ∧ Below W.heap.size W w' := by
  obtain ⟨r, rfl, hr⟩ := h0
  obtain ⟨q, rfl, hq⟩ := h1
  exact is_walk W r.v q.v HL hr hq
end Go.Proofs.YtkkihbnaaaajeaaDoor.nm
