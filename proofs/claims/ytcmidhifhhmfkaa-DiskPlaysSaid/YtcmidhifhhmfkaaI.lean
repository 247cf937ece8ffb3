/- The walk of DiskPlays (under way). -/
import Derived.Test.YtcmidhifhhmfkaaH
import Derived.Test.YtcmidhifhhmfkaaE
namespace Go.Proofs.Ytcmidhifhhmfkaa.disk
open Go.ChangeShapes Go.WideShapes Go.ChangeAt Go.RowKit Go.Proofs.Aid
/-- All three are the same, and the reference's texts are S and T. -/
structure DT (W : World) (p z x : Nat) (l : List UInt8) (k : Nat) (S T : ByteArray) (w : World) : Prop where
  dd : DD W p z x l k l k l k w
  bx : Blk w x 32 #[.string S, .string T]
  rd : RD S T l k
theorem DD.drew {W w : World} {p z x : Nat} {l1 l2 l3 : List UInt8} {k1 k2 k3 : Nat} (h : DD W p z x l1 k1 l2 k2 l3 k3 w) : DD W p z x l1 k1 l2 k2 l3 k3 w.drew := by
  obtain ⟨v, u, S, T, hd, hz, hx, hr, ov, ou, ap⟩ := h.ex
  exact ⟨h.low.drew, h.hp, h.hz, h.hx, h.pz, v, u, S, T, ⟨hd.blk.drew, hd.row.kept fun _ _ => rfl, hd.le⟩, ⟨hz.blk.drew, hz.row.kept fun _ _ => rfl, hz.le⟩, hx.drew, hr, ov, ou, ap⟩
theorem DT.of {W w : World} {p z x : Nat} {l : List UInt8} {k : Nat} {S T : ByteArray} (h : DT W p z x l k S T w) : w.cell? ⟨x, 0, none⟩ = some (.string S) ∧ w.cell? ⟨x, 1, none⟩ = some (.string T) ∧ Hid (DT W p z x l k S T w) :=
  ⟨by rw [h.bx.cell]; rfl, by rw [h.bx.cell]; rfl, h⟩
theorem DT.drew {W w : World} {p z x : Nat} {l : List UInt8} {k : Nat} {S T : ByteArray} (h : Hid (DT W p z x l k S T w)) : w.drew.cell? ⟨x, 0, none⟩ = some (.string S) ∧ w.drew.cell? ⟨x, 1, none⟩ = some (.string T) ∧ Hid (DT W p z x l k S T w.drew) :=
  DT.of ⟨h.dd.drew, h.bx.drew, h.rd⟩
theorem DD.bytes_d {W w : World} {p z x : Nat} {l1 l2 l3 : List UInt8} {k1 k2 k3 : Nat} (h : DD W p z x l1 k1 l2 k2 l3 k3 w) : Calls Try.prog 10 #[.pointer (some ⟨p, 0, none⟩)] w fun e w' => e = .returned (.string ⟨l1.toArray⟩) ∧ w' = w := by
  obtain ⟨v, u, S, T, hd, hz, hx, hr, ov, ou, ap⟩ := h.ex; exact bytes_any hd
theorem DD.bytes_z {W w : World} {p z x : Nat} {l1 l2 l3 : List UInt8} {k1 k2 k3 : Nat} (h : DD W p z x l1 k1 l2 k2 l3 k3 w) : Calls Try.prog 10 #[.pointer (some ⟨z, 0, none⟩)] w fun e w' => e = .returned (.string ⟨l2.toArray⟩) ∧ w' = w := by
  obtain ⟨v, u, S, T, hd, hz, hx, hr, ov, ou, ap⟩ := h.ex; exact bytes_any hz
theorem DD.sure_d {W w : World} {p z x : Nat} {l1 l2 l3 : List UInt8} {k1 k2 k3 : Nat} (h : DD W p z x l1 k1 l2 k2 l3 k3 w) : Calls Try.prog 11 #[.pointer (some ⟨p, 0, none⟩)] w fun e w' => e = .returned (.int .i64 k1) ∧ w' = w := by
  obtain ⟨v, u, S, T, hd, hz, hx, hr, ov, ou, ap⟩ := h.ex; exact sure_any hd
theorem DD.sure_z {W w : World} {p z x : Nat} {l1 l2 l3 : List UInt8} {k1 k2 k3 : Nat} (h : DD W p z x l1 k1 l2 k2 l3 k3 w) : Calls Try.prog 11 #[.pointer (some ⟨z, 0, none⟩)] w fun e w' => e = .returned (.int .i64 k2) ∧ w' = w := by
  obtain ⟨v, u, S, T, hd, hz, hx, hr, ov, ou, ap⟩ := h.ex; exact sure_any hz
theorem DD.alloc {W w : World} {p z x : Nat} {l1 l2 l3 : List UInt8} {k1 k2 k3 : Nat} (h : DD W p z x l1 k1 l2 k2 l3 k3 w) (o : Obj) : DD W p z x l1 k1 l2 k2 l3 k3 (w.alloc o) := by
  obtain ⟨v, u, S, T, hd, hz, hx, hr, ov, ou, ap⟩ := h.ex
  exact ⟨h.low.alloc h.low.size o, h.hp, h.hz, h.hx, h.pz, v, u, S, T, hd.alloc o, hz.alloc o, hx.alloc o, hr, ov, ou, ap⟩
theorem DD.first {W w : World} (h : Below W.heap.size W w) :
    DD W w.heap.size (w.heap.size + 1) (w.heap.size + 2) [] 0 [] 0 [] 0 (((w.alloc (.cells #[.slice none 0 0, .int .i64 0] 29)).alloc (.cells #[.slice none 0 0, .int .i64 0] 29)).alloc (.cells #[.string ⟨#[]⟩, .string ⟨#[]⟩] 32)) := by
  have hs := h.size
  refine ⟨((h.alloc hs _).alloc (by simp; omega) _).alloc (by simp; omega) _, hs, by omega, by omega, by omega, .slice none 0 0, .slice none 0 0, ⟨#[]⟩, ⟨#[]⟩, ?_, ?_, ?_, ⟨rfl, rfl⟩, fun g q => by simp [Value.ownBlock] at q, fun g q => by simp [Value.ownBlock] at q, fun g q => by simp [Value.ownBlock] at q⟩
  · exact ((DK.new w).alloc _).alloc _
  · have := (DK.new (w.alloc (.cells #[.slice none 0 0, .int .i64 0] 29))).alloc (.cells #[.string ⟨#[]⟩, .string ⟨#[]⟩] 32)
    simpa using this
  · have := Blk.new ((w.alloc (.cells #[.slice none 0 0, .int .i64 0] 29)).alloc (.cells #[.slice none 0 0, .int .i64 0] 29)) 32 #[.string ⟨#[]⟩, .string ⟨#[]⟩]
    simpa using this
end Go.Proofs.Ytcmidhifhhmfkaa.disk
