/- Blocks of a place, of a fraction's texts; how great a number is that was read. -/
import Derived.Test.YtgkibmigbjjnnaaRLow
import Derived.Test.YtgkibmigbjjnnaaIRead
import Derived.Deep.Cut
namespace Go.Proofs.Ytgkibmigbjjnnaa
open Go.RowKit

def BoxF (W : World) (B : Nat) (x y : Value) : Prop := Box2 W B 55 x y
theorem BoxF.cell0 {W : World} {B : Nat} {x y : Value} (h : BoxF W B x y) : W.cell? ⟨B, 0, none⟩ = some x := Box2.cell0 h
theorem BoxF.cell1 {W : World} {B : Nat} {x y : Value} (h : BoxF W B x y) : W.cell? ⟨B, 1, none⟩ = some y := Box2.cell1 h
theorem BoxF.free {W : World} {B : Nat} {x y : Value} (h : BoxF W B x y) (o : Nat) : W.frozen? ⟨B, o, none⟩ = false := Box2.free h o
theorem BoxF.lt {W : World} {B : Nat} {x y : Value} (h : BoxF W B x y) : B < W.heap.size := Box2.lt h
theorem BoxF.step {W W' : World} {B : Nat} {x y : Value} (h : BoxF W B x y) (hb : Below W.heap.size W W') : BoxF W' B x y := Box2.step h hb
theorem BoxF.drew {W : World} {B : Nat} {x y : Value} (h : BoxF W B x y) : BoxF W.drew B x y := h
theorem BoxF.new (W : World) (x y : Value) : BoxF (W.alloc (.cells #[x, y] 55)) W.heap.size x y := Box2.new W _ x y
theorem BoxF.other4 {W : World} {B C : Nat} {x y : Value} (h : BoxF W B x y) (hne : C ≠ B) (x' y' u' v' : Value) : BoxF ((((W.setCell ⟨C, 0, none⟩ x').setCell ⟨C, 1, none⟩ y').setCell ⟨C, 2, none⟩ u').setCell ⟨C, 3, none⟩ v') B x y :=
  Box2.set_ne (Box2.set_ne (Box2.set_ne (Box2.set_ne h hne _) hne _) hne _) hne _
def BoxS (W : World) (B : Nat) (x y : Value) : Prop := Box2 W B 30 x y
theorem BoxS.cell0 {W : World} {B : Nat} {x y : Value} (h : BoxS W B x y) : W.cell? ⟨B, 0, none⟩ = some x := Box2.cell0 h
theorem BoxS.cell1 {W : World} {B : Nat} {x y : Value} (h : BoxS W B x y) : W.cell? ⟨B, 1, none⟩ = some y := Box2.cell1 h
theorem BoxS.free {W : World} {B : Nat} {x y : Value} (h : BoxS W B x y) (o : Nat) : W.frozen? ⟨B, o, none⟩ = false := Box2.free h o
theorem BoxS.lt {W : World} {B : Nat} {x y : Value} (h : BoxS W B x y) : B < W.heap.size := Box2.lt h
theorem BoxS.step {W W' : World} {B : Nat} {x y : Value} (h : BoxS W B x y) (hb : Below W.heap.size W W') : BoxS W' B x y := Box2.step h hb
theorem BoxS.drew {W : World} {B : Nat} {x y : Value} (h : BoxS W B x y) : BoxS W.drew B x y := h
theorem BoxS.new (W : World) (x y : Value) : BoxS (W.alloc (.cells #[x, y] 30)) W.heap.size x y := Box2.new W _ x y
theorem BoxS.other4 {W : World} {B C : Nat} {x y : Value} (h : BoxS W B x y) (hne : C ≠ B) (x' y' u' v' : Value) : BoxS ((((W.setCell ⟨C, 0, none⟩ x').setCell ⟨C, 1, none⟩ y').setCell ⟨C, 2, none⟩ u').setCell ⟨C, 3, none⟩ v') B x y :=
  Box2.set_ne (Box2.set_ne (Box2.set_ne (Box2.set_ne h hne _) hne _) hne _) hne _

theorem IRd.sz {s : ByteArray} {z : Int} {a b : Nat} (h : IRd s z a b) : SzI 65536 z := by
  have h0 : SzI 65536 0 := SzI.zero.mono (by decide)
  rcases h with ⟨_, rfl, _, _⟩ | ⟨_, _, _, rfl, _, _⟩ | ⟨hs, _, xs, a', b', hr, ⟨_, rfl, _, _⟩ | ⟨_, rfl, _, _⟩⟩
  · exact h0
  · exact h0
  · exact h0
  · have hc := cutP_size s 45
    rcases hr with ⟨_, rfl, _, _⟩ | ⟨_, rfl, _, _⟩ | ⟨_, i, _, _, _, rfl, _, _⟩ | ⟨_, _, hg, rfl, _, _⟩
    · exact SzI.of Ok.nil (Nat.zero_le _)
    · exact SzI.of Ok.nil (Nat.zero_le _)
    · exact SzI.of Ok.nil (Nat.zero_le _)
    · exact SzI.of (ok_lim _) (Nat.le_trans (nv_len _ _ _ hg (Nat.le_refl _)) (by omega))
/-- a truth is handed back -/
def SomeB (e : Ending) : Prop := ∃ r, e = .returned (.bool r)
/-- some fraction, not too great, and a truth -/
def SomeQ (e : Ending) (w : World) : Prop := ∃ v q ok, e = .returned (.tuple #[v, .bool ok]) ∧ RatAt w v q ∧ SzR 65536 q
theorem bbpK (k : Nat) : 0 < BB ^ k := Nat.pow_pos BB_pos
theorem IRd.szK {s : ByteArray} {z : Int} {a b : Nat} {K : Nat} (h : IRd s z a b) (hs : s.size ≤ K) : SzI K z := by
  unfold SzI
  have hp := bbpK K
  rcases h with ⟨_, rfl, _⟩ | ⟨_, _, _, rfl, _⟩ | ⟨_, _, xs, c, d, hr, h3⟩
  · exact hp
  · exact hp
  · rcases h3 with ⟨_, rfl, _⟩ | ⟨rfl, rfl, _⟩
    · exact hp
    rw [sg_abs]
    rcases hr with ⟨_, _, h, _⟩ | ⟨_, _, h, _⟩ | ⟨_, i, _, _, _, _, h, _⟩ | ⟨_, g0, g, rfl, _, _⟩
    · omega
    · omega
    · omega
    rw [val_lim]
    have h1 := nv_lt _ _ g
    have h2 := cutP_size s 45
    exact Nat.lt_of_lt_of_le h1 (Nat.le_trans (Nat.pow_le_pow_right (by decide) (show (cutP s 45).size ≤ K by omega)) (Nat.pow_le_pow_left (by decide) _))
theorem SzR.zero : SzR 65536 0 := ⟨SzI.zero.mono (by decide), SzI.one.mono (by decide)⟩
end Go.Proofs.Ytgkibmigbjjnnaa
