/- swageref03.digits: where the digits that begin at a place end. -/
import Derived.Test.YtgkibmigbjjnnaaRLow
import Derived.Test.YtgkibmigbjjnnaaIRead
import Derived.Deep.Cut
import Derived.LoopN
import Derived.Test.YtgkibmigbjjnnaaPre
import Derived.Test.YtgkibmigbjjnnaaShelf
import Derived.Lib.IndexLaws
import Derived.Test.YtgkibmigbjjnnaaRead
import Derived.Test.YtgkibmigbjjnnaaText
import Derived.Test.YtgkibmigbjjnnaaIText
import Derived.Test.YtgkibmigbjjnnaaRText
namespace Go.Proofs.Ytgkibmigbjjnnaa
open Go.RowKit

def BoxF (W : World) (B : Nat) (x y : Value) : Prop := Box2 W B 55 x y
theorem BoxF.cell0 {W : World} {B : Nat} {x y : Value} (h : BoxF W B x y) : W.cell? ⟨B, 0, none⟩ = some x := Box2.cell0 h
theorem BoxF.cell1 {W : World} {B : Nat} {x y : Value} (h : BoxF W B x y) : W.cell? ⟨B, 1, none⟩ = some y := Box2.cell1 h
theorem BoxF.free {W : World} {B : Nat} {x y : Value} (h : BoxF W B x y) (o : Nat) : W.frozen? ⟨B, o, none⟩ = false := Box2.free h o
theorem BoxF.lt {W : World} {B : Nat} {x y : Value} (h : BoxF W B x y) : B < W.heap.size := Box2.lt h
theorem BoxF.step {W W' : World} {B : Nat} {x y : Value} (h : BoxF W B x y) (hb : Below W.heap.size W W') : BoxF W' B x y := Box2.step h hb
theorem BoxF.drew {W : World} {B : Nat} {x y : Value} (h : BoxF W B x y) : BoxF W.drew B x y := h
theorem BoxF.new (W : World) (x y : Value) : BoxF (W.alloc (.cells #[x, y] 55)) W.heap.size x y := Box2.new W _ x y
theorem BoxF.other4 {W : World} {B C : Nat} {x y : Value} (h : BoxF W B x y) (hne : C ≠ B) (x' y' u' v' : Value) : BoxF ((((W.setCell ⟨C, 0, none⟩ x').setCell ⟨C, 1, none⟩ y').setCell ⟨C, 2, none⟩ u').setCell ⟨C, 3, none⟩ v') B x y :=
  Box2.set_ne (Box2.set_ne (Box2.set_ne (Box2.set_ne h hne _) hne _) hne _) hne _
def BoxS (W : World) (B : Nat) (x y : Value) : Prop := Box2 W B 30 x y
theorem BoxS.cell0 {W : World} {B : Nat} {x y : Value} (h : BoxS W B x y) : W.cell? ⟨B, 0, none⟩ = some x := Box2.cell0 h
theorem BoxS.cell1 {W : World} {B : Nat} {x y : Value} (h : BoxS W B x y) : W.cell? ⟨B, 1, none⟩ = some y := Box2.cell1 h
theorem BoxS.free {W : World} {B : Nat} {x y : Value} (h : BoxS W B x y) (o : Nat) : W.frozen? ⟨B, o, none⟩ = false := Box2.free h o
theorem BoxS.lt {W : World} {B : Nat} {x y : Value} (h : BoxS W B x y) : B < W.heap.size := Box2.lt h
theorem BoxS.step {W W' : World} {B : Nat} {x y : Value} (h : BoxS W B x y) (hb : Below W.heap.size W W') : BoxS W' B x y := Box2.step h hb
theorem BoxS.drew {W : World} {B : Nat} {x y : Value} (h : BoxS W B x y) : BoxS W.drew B x y := h
theorem BoxS.new (W : World) (x y : Value) : BoxS (W.alloc (.cells #[x, y] 30)) W.heap.size x y := Box2.new W _ x y
theorem BoxS.other4 {W : World} {B C : Nat} {x y : Value} (h : BoxS W B x y) (hne : C ≠ B) (x' y' u' v' : Value) : BoxS ((((W.setCell ⟨C, 0, none⟩ x').setCell ⟨C, 1, none⟩ y').setCell ⟨C, 2, none⟩ u').setCell ⟨C, 3, none⟩ v') B x y :=
  Box2.set_ne (Box2.set_ne (Box2.set_ne (Box2.set_ne h hne _) hne _) hne _) hne _

theorem IRd.sz {s : ByteArray} {z : Int} {a b : Nat} (h : IRd s z a b) : SzI 65536 z := by
  have h0 : SzI 65536 0 := SzI.zero.mono (by decide)
  rcases h with ⟨_, rfl, _, _⟩ | ⟨_, _, _, rfl, _, _⟩ | ⟨hs, _, xs, a', b', hr, ⟨_, rfl, _, _⟩ | ⟨_, rfl, _, _⟩⟩
  · exact h0
  · exact h0
  · exact h0
  · have hc := cutP_size s 45
    rcases hr with ⟨_, rfl, _, _⟩ | ⟨_, rfl, _, _⟩ | ⟨_, i, _, _, _, rfl, _, _⟩ | ⟨_, _, hg, rfl, _, _⟩
    · exact SzI.of Ok.nil (Nat.zero_le _)
    · exact SzI.of Ok.nil (Nat.zero_le _)
    · exact SzI.of Ok.nil (Nat.zero_le _)
    · exact SzI.of (ok_lim _) (Nat.le_trans (nv_len _ _ _ hg (Nat.le_refl _)) (by omega))
/-- a truth is handed back -/
def SomeB (e : Ending) : Prop := ∃ r, e = .returned (.bool r)
/-- some fraction, not too great, and a truth -/
def SomeQ (e : Ending) (w : World) : Prop := ∃ v q ok, e = .returned (.tuple #[v, .bool ok]) ∧ RatAt w v q ∧ SzR 65536 q
theorem SzR.zero : SzR 65536 0 := ⟨SzI.zero.mono (by decide), SzI.one.mono (by decide)⟩
end Go.Proofs.Ytgkibmigbjjnnaa

namespace Go.Proofs.Ytgkibmigbjjnnaa
open Go.RowKit

def BoxA (W : World) (B : Nat) (x y u v : Value) : Prop := W.heap[B]? = some (.cells #[x, y, u, v] 77 (0, 0))
theorem BoxA.cell0 {W : World} {B : Nat} {x y u v : Value} (h : BoxA W B x y u v) : W.cell? ⟨B, 0, none⟩ = some x := by simp [World.cell?, show W.heap[B]? = _ from h]
theorem BoxA.cell1 {W : World} {B : Nat} {x y u v : Value} (h : BoxA W B x y u v) : W.cell? ⟨B, 1, none⟩ = some y := by simp [World.cell?, show W.heap[B]? = _ from h]
theorem BoxA.cell2 {W : World} {B : Nat} {x y u v : Value} (h : BoxA W B x y u v) : W.cell? ⟨B, 2, none⟩ = some u := by simp [World.cell?, show W.heap[B]? = _ from h]
theorem BoxA.cell3 {W : World} {B : Nat} {x y u v : Value} (h : BoxA W B x y u v) : W.cell? ⟨B, 3, none⟩ = some v := by simp [World.cell?, show W.heap[B]? = _ from h]
theorem BoxA.free {W : World} {B : Nat} {x y u v : Value} (h : BoxA W B x y u v) (o : Nat) : W.frozen? ⟨B, o, none⟩ = false := by simp [World.frozen?, show W.heap[B]? = _ from h]
theorem BoxA.lt {W : World} {B : Nat} {x y u v : Value} (h : BoxA W B x y u v) : B < W.heap.size := (Array.getElem?_eq_some_iff.1 h).1
theorem BoxA.step {W W' : World} {B : Nat} {x y u v : Value} (h : BoxA W B x y u v) (hb : Below W.heap.size W W') : BoxA W' B x y u v := (hb.block B h.lt).trans h
theorem BoxA.drew {W : World} {B : Nat} {x y u v : Value} (h : BoxA W B x y u v) : BoxA W.drew B x y u v := h
theorem BoxA.new (W : World) (x y u v : Value) : BoxA (W.alloc (.cells #[x, y, u, v] 77)) W.heap.size x y u v := heap_alloc_new _ _
theorem BoxA.set_ne {W : World} {B C o : Nat} {x y u v : Value} (h : BoxA W B x y u v) (hne : C ≠ B) (c : Value) : BoxA (W.setCell ⟨C, o, none⟩ c) B x y u v := by
  show (W.heap.modify C _)[B]? = _
  rw [Array.getElem?_modify, if_neg hne]; exact h
theorem BoxA.set {W : World} {B : Nat} {x y u v : Value} (h : BoxA W B x y u v) (o : Nat) (c : Value) : (W.setCell ⟨B, o, none⟩ c).heap[B]? = some (.cells (#[x, y, u, v].setIfInBounds o c) 77 (0, 0)) := by
  obtain ⟨hlt, hk⟩ := Array.getElem?_eq_some_iff.1 h
  show (W.heap.modify B _)[B]? = _
  rw [Array.getElem?_eq_getElem (by rw [Array.size_modify]; exact hlt), Array.getElem_modify_self, hk]
  rfl
theorem BoxA.put {W : World} {B : Nat} {x y u v : Value} (h : BoxA W B x y u v) (x' y' u' v' : Value) : BoxA ((((W.setCell ⟨B, 0, none⟩ x').setCell ⟨B, 1, none⟩ y').setCell ⟨B, 2, none⟩ u').setCell ⟨B, 3, none⟩ v') B x' y' u' v' := by
  have h0 : BoxA (W.setCell ⟨B, 0, none⟩ x') B x' y u v := h.set 0 x'
  have h1 : BoxA ((W.setCell ⟨B, 0, none⟩ x').setCell ⟨B, 1, none⟩ y') B x' y' u v := h0.set 1 y'
  have h2 : BoxA (((W.setCell ⟨B, 0, none⟩ x').setCell ⟨B, 1, none⟩ y').setCell ⟨B, 2, none⟩ u') B x' y' u' v := h1.set 2 u'
  exact h2.set 3 v'
theorem BoxA.keeps {W : World} {B : Nat} {x y u v : Value} (h : BoxA W B x y u v) (hx : ∀ z, x ≠ .int .u32 z) (hy : ∀ z, y ≠ .int .u32 z) (hu : ∀ z, u ≠ .int .u32 z) (hv : ∀ z, v ≠ .int .u32 z) (x' y' u' v' : Value) : Spares W ((((W.setCell ⟨B, 0, none⟩ x').setCell ⟨B, 1, none⟩ y').setCell ⟨B, 2, none⟩ u').setCell ⟨B, 3, none⟩ v') := by
  have h0 : BoxA (W.setCell ⟨B, 0, none⟩ x') B x' y u v := h.set 0 x'
  have h1 : BoxA ((W.setCell ⟨B, 0, none⟩ x').setCell ⟨B, 1, none⟩ y') B x' y' u v := h0.set 1 y'
  have h2 : BoxA (((W.setCell ⟨B, 0, none⟩ x').setCell ⟨B, 1, none⟩ y').setCell ⟨B, 2, none⟩ u') B x' y' u' v := h1.set 2 u'
  exact (((Spares.set h.cell0 hx x').trans (Spares.set h0.cell1 hy y')).trans (Spares.set h1.cell2 hu u')).trans (Spares.set h2.cell3 hv v')
theorem BoxA.other4 {W : World} {B C : Nat} {x y u v : Value} (h : BoxA W B x y u v) (hne : C ≠ B) (x' y' u' v' : Value) : BoxA ((((W.setCell ⟨C, 0, none⟩ x').setCell ⟨C, 1, none⟩ y').setCell ⟨C, 2, none⟩ u').setCell ⟨C, 3, none⟩ v') B x y u v := (((h.set_ne hne _).set_ne hne _).set_ne hne _).set_ne hne _
theorem BoxA.other {W : World} {B C : Nat} {x y u v : Value} (h : BoxA W B x y u v) (hne : C ≠ B) (x' y' : Value) : BoxA ((W.setCell ⟨C, 0, none⟩ x').setCell ⟨C, 1, none⟩ y') B x y u v := (h.set_ne hne _).set_ne hne _
theorem Try.sidx0 (W : World) (x y : Value) : Sem.run Try.prog (Instr.index 119 (.agg #[x, y]) (.int .i64 0)) W = .ok x W := by kernel_rfl
theorem Try.sidx1 (W : World) (x y : Value) : Sem.run Try.prog (Instr.index 119 (.agg #[x, y]) (.int .i64 1)) W = .ok y W := by kernel_rfl
theorem IRd.bsmall3 {s : ByteArray} {z : Int} {a b : Nat} (h : IRd s z a b) : b ≤ 65536 + s.size + 1 := by
  rcases h with ⟨_, _, _, rfl⟩ | ⟨_, _, _, _, _, rfl⟩ | ⟨_, _, xs, a', b', hr, ⟨_, _, _, rfl⟩ | ⟨_, _, _, rfl⟩⟩
  · omega
  · omega
  · have := hr.small; omega
  · omega
theorem IRd.zero0 {s : ByteArray} {z : Int} {b : Nat} (h : IRd s z 0 b) : b = 0 := by
  rcases h with ⟨_, _, h, _⟩ | ⟨_, _, _, _, h, _⟩ | ⟨_, _, xs, a', b', hr, ⟨h, _, h', _⟩ | ⟨_, _, _, h⟩⟩
  · omega
  · omega
  · exact absurd h'.symm h
  · exact h
/-- what the texts on both sides of a stroke read as -/
def RT (a b : ByteArray) (z1 z2 : Int) (p q : Nat) : Prop :=
  (IRd a z1 p q ∧ p ≠ 0) ∨ (IRd a z1 0 0 ∧ ∃ p2 q2, IRd b z2 p2 q2 ∧
    (((hp b 45 || hp b 48) = true ∧ p = 6 ∧ q = a.size + 1) ∨ ((hp b 45 || hp b 48) = false ∧ p2 ≠ 0 ∧ p = p2 ∧ q = q2 + (a.size + 1)) ∨ ((hp b 45 || hp b 48) = false ∧ p2 = 0 ∧ p = 0 ∧ q = 0)))
def RTm (a b : ByteArray) (e : Ending) (w : World) : Prop :=
  ∃ s m n c s' m' n' c' z1 z2 p q, e = .returned (.tuple #[.agg #[.bool s, .slice m n c, .bool s', .slice m' n' c'], .agg #[.int .i64 (p : Nat), .int .i64 (q : Nat)]]) ∧ IntAt w (.agg #[.bool s, .slice m n c]) z1 ∧ IntAt w (.agg #[.bool s', .slice m' n' c']) z2 ∧ RT a b z1 z2 p q

theorem Try.infoA : (Try.prog.info? 77).map (·.size) = some 4 := by kernel_rfl
theorem Try.infoS3 : (Try.prog.info? 30).map (·.size) = some 2 := by kernel_rfl
theorem BoxA.put2a {W : World} {B : Nat} {x y u v : Value} (h : BoxA W B x y u v) (x' y' : Value) : BoxA ((W.setCell ⟨B, 0, none⟩ x').setCell ⟨B, 1, none⟩ y') B x' y' u v := by
  have h0 : BoxA (W.setCell ⟨B, 0, none⟩ x') B x' y u v := h.set 0 x'
  exact h0.set 1 y'
theorem BoxA.put2b {W : World} {B : Nat} {x y u v : Value} (h : BoxA W B x y u v) (x' y' : Value) : BoxA ((W.setCell ⟨B, 2, none⟩ x').setCell ⟨B, 3, none⟩ y') B x y x' y' := by
  have h0 : BoxA (W.setCell ⟨B, 2, none⟩ x') B x y x' v := h.set 2 x'
  exact h0.set 3 y'
theorem BoxA.keeps2a {W : World} {B : Nat} {x y u v : Value} (h : BoxA W B x y u v) (hx : ∀ z, x ≠ .int .u32 z) (hy : ∀ z, y ≠ .int .u32 z) (x' y' : Value) : Spares W ((W.setCell ⟨B, 0, none⟩ x').setCell ⟨B, 1, none⟩ y') := by
  have h0 : BoxA (W.setCell ⟨B, 0, none⟩ x') B x' y u v := h.set 0 x'
  exact (Spares.set h.cell0 hx x').trans (Spares.set h0.cell1 hy y')
theorem BoxA.keeps2b {W : World} {B : Nat} {x y u v : Value} (h : BoxA W B x y u v) (hx : ∀ z, u ≠ .int .u32 z) (hy : ∀ z, v ≠ .int .u32 z) (x' y' : Value) : Spares W ((W.setCell ⟨B, 2, none⟩ x').setCell ⟨B, 3, none⟩ y') := by
  have h0 : BoxA (W.setCell ⟨B, 2, none⟩ x') B x y x' v := h.set 2 x'
  exact (Spares.set h.cell2 hx x').trans (Spares.set h0.cell3 hy y')
theorem BoxA.other2b {W : World} {B C : Nat} {x y u v : Value} (h : BoxA W B x y u v) (hne : C ≠ B) (x' y' : Value) : BoxA ((W.setCell ⟨C, 2, none⟩ x').setCell ⟨C, 3, none⟩ y') B x y u v := (h.set_ne hne _).set_ne hne _
theorem BoxS.other {W : World} {B C : Nat} {x y : Value} (h : BoxS W B x y) (hne : C ≠ B) (x' y' : Value) : BoxS ((W.setCell ⟨C, 0, none⟩ x').setCell ⟨C, 1, none⟩ y') B x y := (Box2.set_ne h hne _).set_ne hne _
theorem BoxS.other2b {W : World} {B C : Nat} {x y : Value} (h : BoxS W B x y) (hne : C ≠ B) (x' y' : Value) : BoxS ((W.setCell ⟨C, 2, none⟩ x').setCell ⟨C, 3, none⟩ y') B x y := (Box2.set_ne h hne _).set_ne hne _
theorem BoxS.put {W : World} {B : Nat} {x y : Value} (h : BoxS W B x y) (x' y' : Value) : BoxS ((W.setCell ⟨B, 0, none⟩ x').setCell ⟨B, 1, none⟩ y') B x' y' := (Box2.set0 h x').set1 y'
theorem BoxS.keeps {W : World} {B : Nat} {x y : Value} (h : BoxS W B x y) (hx : ∀ z, x ≠ .int .u32 z) (hy : ∀ z, y ≠ .int .u32 z) (x' y' : Value) : Spares W ((W.setCell ⟨B, 0, none⟩ x').setCell ⟨B, 1, none⟩ y') :=
  (Spares.set h.cell0 hx x').trans (Spares.set (Box2.set0 h x').cell1 hy y')
theorem BoxS.put1 {W : World} {B : Nat} {x y : Value} (h : BoxS W B x y) (y' : Value) : BoxS (W.setCell ⟨B, 1, none⟩ y') B x y' := Box2.set1 h y'
theorem below_put2b {n : Nat} {w W : World} (h : Below n w W) {C : Nat} (hC : n ≤ C) (x' y' : Value) : Below n w ((W.setCell ⟨C, 2, none⟩ x').setCell ⟨C, 3, none⟩ y') := (h.setCell (p := ⟨C, 2, none⟩) hC _).setCell (p := ⟨C, 3, none⟩) hC _
theorem ret_terms {fn : Func} {R : Ending → World → Prop} {a : Act} {w : World} {p q : Tmp} (h : fn.results = #[.cell p 77, .cell q 30]) (g g' : Nat) (x y u v x' y' : Value)
    (hp : a.tmps.getD p undef = .pointer (some ⟨g, 0, none⟩)) (hq : a.tmps.getD q undef = .pointer (some ⟨g', 0, none⟩)) (hg : BoxA w g x y u v) (hg' : BoxS w g' x' y') (hd : a.defers = []) (hR : R (.returned (.tuple #[.agg #[x, y, u, v], .agg #[x', y']])) w) : bodyPost Try.prog fn R .ret a w := by
  refine bodyPost_ret ?_ hd hR
  have hp' : a.tmps[p]?.getD undef = .pointer (some ⟨g, 0, none⟩) := by simpa using hp
  have hq' : a.tmps[q]?.getD undef = .pointer (some ⟨g', 0, none⟩) := by simpa using hq
  simp [results, h, hp', hq', asAddr, run_loadVar_row w g 77 77 #[x, y, u, v] (0, 0) _ hg Try.underlying77 rfl Try.infoA, run_loadVar_row w g' 30 30 #[x', y'] (0, 0) _ hg' Try.underlying30 rfl Try.infoS3]

set_option maxRecDepth 100000 in
set_option maxHeartbeats 8000000 in
theorem rterms_any (a b : ByteArray) (w : World) (la : a.size ≤ 65536) (lb : b.size ≤ 65536) :
    Calls Try.prog 35 #[.string a, .string b] w fun e w' => RTm a b e w' ∧ Below w.heap.size w w' := by
  have LA := hide la
  have LB := hide lb
  clear la lb
  have R0 := BoxA.new w (.bool false) (.slice none 0 0) (.bool false) (.slice none 0 0)
  replace R0 := R0.step (below_alloc _ (.cells #[.int .i64 0, .int .i64 0] 30))
  replace R0 := hide R0
  have R1 := BoxS.new (w.alloc (.cells #[.bool false, .slice none 0 0, .bool false, .slice none 0 0] 77)) (.int .i64 0) (.int .i64 0)
  simp only [World.size_alloc] at R1
  replace R1 := hide R1
  have HB := below_alloc w (.cells #[.bool false, .slice none 0 0, .bool false, .slice none 0 0] 77)
  replace HB := HB.trans ((below_alloc _ (.cells #[.int .i64 0, .int .i64 0] 30)).mono (by simp only [World.size_alloc]; omega))
  replace HB := hide HB
  go_enter Try.func35, Try.ntmps35
  go_wp2_with fail
  generalize ((w.alloc (.cells #[.bool false, .slice none 0 0, .bool false, .slice none 0 0] 77)).alloc (.cells #[.int .i64 0, .int .i64 0] 30)) = w0 at *
  go_step3
  go_wp2_with fail
  have hp := R1.out.lt
  have PT := BoxA.new w0 (.bool false) (.slice none 0 0) (.bool false) (.slice none 0 0)
  replace PT := PT.step (below_alloc _ (.cells #[.int .i64 0, .int .i64 0] 30))
  replace PT := hide PT
  have PS := BoxS.new (w0.alloc (.cells #[.bool false, .slice none 0 0, .bool false, .slice none 0 0] 77)) (.int .i64 0) (.int .i64 0)
  simp only [World.size_alloc] at PS
  replace PS := hide PS
  have al := below_alloc w0 (.cells #[.bool false, .slice none 0 0, .bool false, .slice none 0 0] 77)
  replace al := al.trans ((below_alloc _ (.cells #[.int .i64 0, .int .i64 0] 30)).mono (by simp only [World.size_alloc]; omega))
  replace R0 := hide (R0.out.step (al))
  replace R1 := hide (R1.out.step (al))
  replace HB := hide (HB.out.trans ((al).mono HB.out.size))
  clear al
  generalize ((w0.alloc (.cells #[.bool false, .slice none 0 0, .bool false, .slice none 0 0] 77)).alloc (.cells #[.int .i64 0, .int .i64 0] 30)) = w0a at *
  generalize w0.heap.size = g at *
  have LTS := hide hp
  clear hp
  go_step3
  go_wp2_with fail
  refine wp_loop_rounds 3 ?_
  rw [rounds_succ]
  have ix0 := Try.sidx0
  have ix1 := Try.sidx1
  go_wp2_with fail
  refine (iread_any a _ (Nat.le_trans LA.out (by decide))).mono ?_
  rintro e u1 ⟨v, z1, p1, q1, rfl, kx1, hr1, hb⟩
  obtain ⟨s1, m1, n1, c1, rfl, ky1⟩ := kx1.cells
  have H1 := hide hr1
  have B1 : Hid ((q1 : Int) ≤ 200000) := hide (by have := hr1.bsmall3; have := LA.out; omega)
  replace R0 := hide (R0.out.step (hb))
  replace R1 := hide (R1.out.step (hb))
  replace HB := hide (HB.out.trans ((hb).mono HB.out.size))
  replace PT := hide (PT.out.step (hb))
  replace PS := hide (PS.out.step (hb))
  have I1 := hide (ky1)
  clear hb kx1 ky1 hr1
  have hPT0 := PT.out.cell0
  have hPT1 := PT.out.cell1
  have hPT2 := PT.out.cell2
  have hPT3 := PT.out.cell3
  have fPT0 := PT.out.free 0
  have fPT1 := PT.out.free 1
  have fPT2 := PT.out.free 2
  have fPT3 := PT.out.free 3
  have hPS0 := PS.out.cell0
  have hPS1 := PS.out.cell1
  have fPS0 := PS.out.free 0
  have fPS1 := PS.out.free 1
  go_upto_region 9 with fail
  clear hPT0 hPT1 hPT2 hPT3 fPT0 fPT1 fPT2 fPT3
  clear hPS0 hPS1 fPS0 fPS1
  have KA := hide (PT.out.keeps2a (by simp) (by simp) (.bool s1) (.slice m1 n1 c1))
  replace PS := hide (PS.out.other (C := g) (by omega) (.bool s1) (.slice m1 n1 c1))
  have KB := hide (PS.out.keeps (by simp) (by simp) (.int .i64 (p1 : Nat)) (.int .i64 (q1 : Nat)))
  replace HB := hide (below_put (below_put (C := g) HB.out (by have hx := LTS.out; omega) (.bool s1) (.slice m1 n1 c1)) (show w.heap.size ≤ g + 1 by have hx := LTS.out; omega) (.int .i64 (p1 : Nat)) (.int .i64 (q1 : Nat)))
  replace R0 := hide ((R0.out.other (C := g) (by have hx := LTS.out; omega) (.bool s1) (.slice m1 n1 c1)).other (C := g + 1) (by have hx := LTS.out; omega) (.int .i64 (p1 : Nat)) (.int .i64 (q1 : Nat)))
  replace R1 := hide ((R1.out.other (C := g) (by have hx := LTS.out; omega) (.bool s1) (.slice m1 n1 c1)).other (C := g + 1) (by have hx := LTS.out; omega) (.int .i64 (p1 : Nat)) (.int .i64 (q1 : Nat)))
  replace PT := hide ((PT.out.put2a (.bool s1) (.slice m1 n1 c1)).other (C := g + 1) (by omega) (.int .i64 (p1 : Nat)) (.int .i64 (q1 : Nat)))
  replace PS := hide (PS.out.put (.int .i64 (p1 : Nat)) (.int .i64 (q1 : Nat)))
  replace I1 := hide ((I1.out.keep KA.out).keep KB.out)
  clear KA KB
  generalize ((((u1.setCell ⟨g, 0, none⟩ (.bool s1)).setCell ⟨g, 1, none⟩ (.slice m1 n1 c1)).setCell ⟨g + 1, 0, none⟩ (.int .i64 (p1 : Nat))).setCell ⟨g + 1, 1, none⟩ (.int .i64 (q1 : Nat))) = x1 at *
  by_cases hz : p1 = 0
  rotate_left
  · have hne : ((p1 : Int) != 0) = true := by simp; omega
    have hb1 := B1.out
    have ha := LA.out
    have hPS0 := PS.out.cell0
    have hPS1 := PS.out.cell1
    have fPS0 := PS.out.free 0
    have fPS1 := PS.out.free 1
    go_upto_region 12 with fail
    clear hb1 ha hne
    clear hPS0 hPS1 fPS0 fPS1
    have KA : Hid (Spares x1 (x1.setCell ⟨g + 1, 1, none⟩ (.int .i64 (q1 : Nat)))) := hide (Spares.set PS.out.cell1 (by simp) _)
    replace HB := hide (HB.out.setCell (p := ⟨g + 1, 1, none⟩) (show w.heap.size ≤ g + 1 by have hx := LTS.out; omega) (.int .i64 (q1 : Nat)))
    replace R0 := hide (R0.out.set_ne (C := g + 1) (o := 1) (by have hx := LTS.out; omega) (.int .i64 (q1 : Nat)))
    replace R1 := hide (show BoxS _ _ _ _ from Box2.set_ne R1.out (C := g + 1) (o := 1) (by have hx := LTS.out; omega) (.int .i64 (q1 : Nat)))
    replace PT := hide (PT.out.set_ne (C := g + 1) (o := 1) (by omega) (.int .i64 (q1 : Nat)))
    replace PS := hide (PS.out.put1 (.int .i64 (q1 : Nat)))
    replace I1 := hide (I1.out.keep KA.out)
    clear KA
    generalize x1.setCell ⟨g + 1, 1, none⟩ (.int .i64 (q1 : Nat)) = x3 at *
    replace R0 := hide R0.out.drew
    replace R1 := hide R1.out.drew
    replace I1 := hide I1.out.drew
    refine wp_calm (fun w' => Below w.heap.size w w' ∧ BoxA w' g (.bool s1) (.slice m1 n1 c1) (.bool false) (.slice none 0 0) ∧ BoxS w' (g + 1) (.int .i64 ((p1 : Nat) : Int)) (.int .i64 ((q1 : Nat) : Int))) (fun _ => true) 4 #[false, false, false, false] (by kernel_rfl) rfl rfl ?_
    have HF := hide (And.intro (HB.out.drew) (And.intro (PT.out.drew) (PS.out.drew)))
    generalize x3.drew = x3d at *
    refine Calm.take (i := 0) (v := ?_) (a' := ?_) (l' := #[true, false, false, false]) (d := some 48) rfl (by kernel_rfl) (by kernel_rfl) (by kernel_rfl) (by kernel_rfl) (fun _ _ _ h => h) HF.out rfl ?_ rfl rfl ?_ ?_
    rotate_left
    · intro w' hF; have f10 := hF.2.1.cell0; have f11 := hF.2.1.cell1; have f12 := hF.2.1.cell2; have f13 := hF.2.1.cell3; have f20 := hF.2.2.cell0; have f21 := hF.2.2.cell1; clear hF; go_simp; try rfl
    rotate_left
    · simp only [Act.put]; exact rfl
    refine Calm.take (i := 1) (v := ?_) (a' := ?_) (l' := #[true, true, false, false]) (d := some 49) rfl (by kernel_rfl) (by kernel_rfl) (by kernel_rfl) (by kernel_rfl) (fun _ _ _ h => h) HF.out rfl ?_ rfl rfl ?_ ?_
    rotate_left
    · intro w' hF; have f10 := hF.2.1.cell0; have f11 := hF.2.1.cell1; have f12 := hF.2.1.cell2; have f13 := hF.2.1.cell3; have f20 := hF.2.2.cell0; have f21 := hF.2.2.cell1; clear hF; go_simp; try rfl
    rotate_left
    · simp only [Act.put]; exact rfl
    refine Calm.one (i := 2) (l' := #[true, true, true, false]) (by kernel_rfl) rfl rfl rfl fun K hK => ?_
    have hc0 := R0.out.cell0
    have hc1 := R0.out.cell1
    have hc2 := R0.out.cell2
    have hc3 := R0.out.cell3
    have hf0 := R0.out.free 0
    have hf1 := R0.out.free 1
    have hf2 := R0.out.free 2
    have hf3 := R0.out.free 3
    go_simp
    have HF' := hide (And.intro (below_put4 HF.out.1 (show w.heap.size ≤ w.heap.size by have hx := LTS.out; omega) (.bool s1) (.slice m1 n1 c1) (.bool false) (.slice none 0 0)) (And.intro (HF.out.2.1.other4 (C := w.heap.size) (by have hx := LTS.out; omega) (.bool s1) (.slice m1 n1 c1) (.bool false) (.slice none 0 0)) (HF.out.2.2.other4 (C := w.heap.size) (by have hx := LTS.out; omega) (.bool s1) (.slice m1 n1 c1) (.bool false) (.slice none 0 0))))
    replace R1 := hide (R1.out.other4 (C := w.heap.size) (by have hx := LTS.out; omega) (.bool s1) (.slice m1 n1 c1) (.bool false) (.slice none 0 0))
    replace I1 := hide (I1.out.keep (R0.out.keeps (by simp) (by simp) (by simp) (by simp) (.bool s1) (.slice m1 n1 c1) (.bool false) (.slice none 0 0)))
    replace R0 := hide (R0.out.put (.bool s1) (.slice m1 n1 c1) (.bool false) (.slice none 0 0))
    refine hK _ _ (fun _ => HF'.out) ?_
    clear hK K HF hc0 hf0 hc1 hf1 hc2 hf2 hc3 hf3
    have HF := hide HF'.out
    clear HF'
    generalize ((((x3d.setCell ⟨w.heap.size, 0, none⟩ (.bool s1)).setCell ⟨w.heap.size, 1, none⟩ (.slice m1 n1 c1)).setCell ⟨w.heap.size, 2, none⟩ (.bool false)).setCell ⟨w.heap.size, 3, none⟩ (.slice none 0 0)) = y1 at *
    refine Calm.one (i := 3) (l' := #[true, true, true, true]) (by kernel_rfl) rfl rfl rfl fun K hK => ?_
    have hc0 := R1.out.cell0
    have hc1 := R1.out.cell1
    have hf0 := R1.out.free 0
    have hf1 := R1.out.free 1
    go_simp
    have HF' := hide (And.intro (below_put HF.out.1 (show w.heap.size ≤ (w.heap.size + 1) by have hx := LTS.out; omega) (.int .i64 ((p1 : Nat) : Int)) (.int .i64 ((q1 : Nat) : Int))) (And.intro (HF.out.2.1.other (C := (w.heap.size + 1)) (by have hx := LTS.out; omega) (.int .i64 ((p1 : Nat) : Int)) (.int .i64 ((q1 : Nat) : Int))) (HF.out.2.2.other (C := (w.heap.size + 1)) (by have hx := LTS.out; omega) (.int .i64 ((p1 : Nat) : Int)) (.int .i64 ((q1 : Nat) : Int)))))
    replace R0 := hide (R0.out.other (C := (w.heap.size + 1)) (by have hx := LTS.out; omega) (.int .i64 ((p1 : Nat) : Int)) (.int .i64 ((q1 : Nat) : Int)))
    replace I1 := hide (I1.out.keep (R1.out.keeps (by simp) (by simp) (.int .i64 ((p1 : Nat) : Int)) (.int .i64 ((q1 : Nat) : Int))))
    replace R1 := hide (R1.out.put (.int .i64 ((p1 : Nat) : Int)) (.int .i64 ((q1 : Nat) : Int)))
    refine hK _ _ (fun _ => HF'.out) ?_
    clear hK K HF hc0 hf0 hc1 hf1
    have HF := hide HF'.out
    clear HF'
    generalize ((y1.setCell ⟨(w.heap.size + 1), 0, none⟩ (.int .i64 ((p1 : Nat) : Int))).setCell ⟨(w.heap.size + 1), 1, none⟩ (.int .i64 ((q1 : Nat) : Int))) = y2 at *
    refine Calm.done (by kernel_rfl) ?_
    replace HB := hide HF.out.1
    replace PT := hide HF.out.2.1
    replace PS := hide HF.out.2.2
    clear HF
    try simp only [List.setIfInBounds_toArray, List.set_cons_succ, List.set_cons_zero]
    go_wp2
    try rw [Exit.noGoto_ret]
    refine ret_terms rfl w.heap.size (w.heap.size + 1) _ _ _ _ _ _ rfl rfl R0.out R1.out rfl ?_
    exact ⟨⟨_, _, _, _, _, _, _, _, z1, 0, p1, q1, rfl, I1.out, int_zero0 _, .inl ⟨H1.out, hz⟩⟩, HB.out⟩
  · subst hz
    obtain rfl := H1.out.zero0
    have hPS0 := PS.out.cell0
    have hPS1 := PS.out.cell1
    have fPS0 := PS.out.free 0
    have fPS1 := PS.out.free 1
    go_wp2_with fail
    rw [rounds_succ]
    go_wp2_with fail
    clear hPS0 hPS1 fPS0 fPS1
    refine (iread_any b _ (Nat.le_trans LB.out (by decide))).mono ?_
    rintro e u2 ⟨v, z2, p2, q2, rfl, kx2, hr2, hb⟩
    obtain ⟨s2, m2, n2, c2, rfl, ky2⟩ := kx2.cells
    have H2 := hide hr2
    have B2 : Hid ((q2 : Int) ≤ 200000) := hide (by have := hr2.bsmall3; have := LB.out; omega)
    replace R0 := hide (R0.out.step (hb))
    replace R1 := hide (R1.out.step (hb))
    replace HB := hide (HB.out.trans ((hb).mono HB.out.size))
    replace PT := hide (PT.out.step (hb))
    replace PS := hide (PS.out.step (hb))
    replace I1 := hide (I1.out.below (hb))
    have I2 := hide (ky2)
    clear hb kx2 ky2 hr2
    have hPT0 := PT.out.cell0
    have hPT1 := PT.out.cell1
    have hPT2 := PT.out.cell2
    have hPT3 := PT.out.cell3
    have fPT0 := PT.out.free 0
    have fPT1 := PT.out.free 1
    have fPT2 := PT.out.free 2
    have fPT3 := PT.out.free 3
    have hPS0 := PS.out.cell0
    have hPS1 := PS.out.cell1
    have fPS0 := PS.out.free 0
    have fPS1 := PS.out.free 1
    have hb := LB.out
    go_wp2_with fail
    clear hb
    clear hPT0 hPT1 hPT2 hPT3 fPT0 fPT1 fPT2 fPT3
    clear hPS0 hPS1 fPS0 fPS1
    have KA := hide (PT.out.keeps2b (by simp) (by simp) (.bool s2) (.slice m2 n2 c2))
    replace PS := hide (PS.out.other2b (C := g) (by omega) (.bool s2) (.slice m2 n2 c2))
    have KB := hide (PS.out.keeps (by simp) (by simp) (.int .i64 (p2 : Nat)) (.int .i64 (q2 : Nat)))
    replace HB := hide (below_put (below_put2b (C := g) HB.out (by have hx := LTS.out; omega) (.bool s2) (.slice m2 n2 c2)) (show w.heap.size ≤ g + 1 by have hx := LTS.out; omega) (.int .i64 (p2 : Nat)) (.int .i64 (q2 : Nat)))
    replace R0 := hide ((R0.out.other2b (C := g) (by have hx := LTS.out; omega) (.bool s2) (.slice m2 n2 c2)).other (C := g + 1) (by have hx := LTS.out; omega) (.int .i64 (p2 : Nat)) (.int .i64 (q2 : Nat)))
    replace R1 := hide ((R1.out.other2b (C := g) (by have hx := LTS.out; omega) (.bool s2) (.slice m2 n2 c2)).other (C := g + 1) (by have hx := LTS.out; omega) (.int .i64 (p2 : Nat)) (.int .i64 (q2 : Nat)))
    replace PT := hide ((PT.out.put2b (.bool s2) (.slice m2 n2 c2)).other (C := g + 1) (by omega) (.int .i64 (p2 : Nat)) (.int .i64 (q2 : Nat)))
    replace PS := hide (PS.out.put (.int .i64 (p2 : Nat)) (.int .i64 (q2 : Nat)))
    replace I1 := hide ((I1.out.keep KA.out).keep KB.out)
    replace I2 := hide ((I2.out.keep KA.out).keep KB.out)
    clear KA KB
    generalize ((((u2.setCell ⟨g, 2, none⟩ (.bool s2)).setCell ⟨g, 3, none⟩ (.slice m2 n2 c2)).setCell ⟨g + 1, 0, none⟩ (.int .i64 (p2 : Nat))).setCell ⟨g + 1, 1, none⟩ (.int .i64 (q2 : Nat))) = x5 at *
    refine (hasPrefix_any b 45 _ (Nat.le_trans LB.out (by decide))).mono ?_
    rintro e u5 ⟨rfl, rfl⟩
    obtain ⟨h45, e45⟩ : ∃ r, hp b 45 = r := ⟨_, rfl⟩
    obtain ⟨h48, e48⟩ : ∃ r, hp b 48 = r := ⟨_, rfl⟩
    have E45 := hide e45
    have E48 := hide e48
    rw [e45]
    clear e45 e48
    cases h45 with
    | true =>
      have hPS0 := PS.out.cell0
      have hPS1 := PS.out.cell1
      have fPS0 := PS.out.free 0
      have fPS1 := PS.out.free 1
      go_upto_region 9 with fail
      clear hPS0 hPS1 fPS0 fPS1
      have KB := hide (PS.out.keeps (by simp) (by simp) (.int .i64 6) (.int .i64 0))
      replace HB := hide (below_put (C := g + 1) HB.out (show w.heap.size ≤ g + 1 by have hx := LTS.out; omega) (.int .i64 6) (.int .i64 0))
      replace R0 := hide (R0.out.other (C := g + 1) (by have hx := LTS.out; omega) (.int .i64 6) (.int .i64 0))
      replace R1 := hide (R1.out.other (C := g + 1) (by have hx := LTS.out; omega) (.int .i64 6) (.int .i64 0))
      replace PT := hide (PT.out.other (C := g + 1) (by omega) (.int .i64 6) (.int .i64 0))
      replace PS := hide (PS.out.put (.int .i64 6) (.int .i64 0))
      replace I1 := hide (I1.out.keep KB.out)
      replace I2 := hide (I2.out.keep KB.out)
      clear KB
      generalize ((u5.setCell ⟨g + 1, 0, none⟩ (.int .i64 6)).setCell ⟨g + 1, 1, none⟩ (.int .i64 0)) = x6 at *
      have hPS0 := PS.out.cell0
      have hPS1 := PS.out.cell1
      have fPS0 := PS.out.free 0
      have fPS1 := PS.out.free 1
      have ha := LA.out
      go_upto_region 12 with fail
      clear ha
      clear hPS0 hPS1 fPS0 fPS1
      have KA : Hid (Spares x6 (x6.setCell ⟨g + 1, 1, none⟩ (.int .i64 ((a.size : Int) + 1)))) := hide (Spares.set PS.out.cell1 (by simp) _)
      replace HB := hide (HB.out.setCell (p := ⟨g + 1, 1, none⟩) (show w.heap.size ≤ g + 1 by have hx := LTS.out; omega) (.int .i64 ((a.size : Int) + 1)))
      replace R0 := hide (R0.out.set_ne (C := g + 1) (o := 1) (by have hx := LTS.out; omega) (.int .i64 ((a.size : Int) + 1)))
      replace R1 := hide (show BoxS _ _ _ _ from Box2.set_ne R1.out (C := g + 1) (o := 1) (by have hx := LTS.out; omega) (.int .i64 ((a.size : Int) + 1)))
      replace PT := hide (PT.out.set_ne (C := g + 1) (o := 1) (by omega) (.int .i64 ((a.size : Int) + 1)))
      replace PS := hide (PS.out.put1 (.int .i64 ((a.size : Int) + 1)))
      replace I1 := hide (I1.out.keep KA.out)
      replace I2 := hide (I2.out.keep KA.out)
      clear KA
      generalize x6.setCell ⟨g + 1, 1, none⟩ (.int .i64 ((a.size : Int) + 1)) = x7 at *
      replace R0 := hide R0.out.drew
      replace R1 := hide R1.out.drew
      replace I1 := hide I1.out.drew
      replace I2 := hide I2.out.drew
      refine wp_calm (fun w' => Below w.heap.size w w' ∧ BoxA w' g (.bool s1) (.slice m1 n1 c1) (.bool s2) (.slice m2 n2 c2) ∧ BoxS w' (g + 1) (.int .i64 6) (.int .i64 ((a.size : Int) + 1))) (fun _ => true) 4 #[false, false, false, false] (by kernel_rfl) rfl rfl ?_
      have HF := hide (And.intro (HB.out.drew) (And.intro (PT.out.drew) (PS.out.drew)))
      generalize x7.drew = x7d at *
      refine Calm.take (i := 0) (v := ?_) (a' := ?_) (l' := #[true, false, false, false]) (d := some 48) rfl (by kernel_rfl) (by kernel_rfl) (by kernel_rfl) (by kernel_rfl) (fun _ _ _ h => h) HF.out rfl ?_ rfl rfl ?_ ?_
      rotate_left
      · intro w' hF; have f10 := hF.2.1.cell0; have f11 := hF.2.1.cell1; have f12 := hF.2.1.cell2; have f13 := hF.2.1.cell3; have f20 := hF.2.2.cell0; have f21 := hF.2.2.cell1; clear hF; go_simp; try rfl
      rotate_left
      · simp only [Act.put]; exact rfl
      refine Calm.take (i := 1) (v := ?_) (a' := ?_) (l' := #[true, true, false, false]) (d := some 49) rfl (by kernel_rfl) (by kernel_rfl) (by kernel_rfl) (by kernel_rfl) (fun _ _ _ h => h) HF.out rfl ?_ rfl rfl ?_ ?_
      rotate_left
      · intro w' hF; have f10 := hF.2.1.cell0; have f11 := hF.2.1.cell1; have f12 := hF.2.1.cell2; have f13 := hF.2.1.cell3; have f20 := hF.2.2.cell0; have f21 := hF.2.2.cell1; clear hF; go_simp; try rfl
      rotate_left
      · simp only [Act.put]; exact rfl
      refine Calm.one (i := 2) (l' := #[true, true, true, false]) (by kernel_rfl) rfl rfl rfl fun K hK => ?_
      have hc0 := R0.out.cell0
      have hc1 := R0.out.cell1
      have hc2 := R0.out.cell2
      have hc3 := R0.out.cell3
      have hf0 := R0.out.free 0
      have hf1 := R0.out.free 1
      have hf2 := R0.out.free 2
      have hf3 := R0.out.free 3
      go_simp
      have HF' := hide (And.intro (below_put4 HF.out.1 (show w.heap.size ≤ w.heap.size by have hx := LTS.out; omega) (.bool s1) (.slice m1 n1 c1) (.bool s2) (.slice m2 n2 c2)) (And.intro (HF.out.2.1.other4 (C := w.heap.size) (by have hx := LTS.out; omega) (.bool s1) (.slice m1 n1 c1) (.bool s2) (.slice m2 n2 c2)) (HF.out.2.2.other4 (C := w.heap.size) (by have hx := LTS.out; omega) (.bool s1) (.slice m1 n1 c1) (.bool s2) (.slice m2 n2 c2))))
      replace R1 := hide (R1.out.other4 (C := w.heap.size) (by have hx := LTS.out; omega) (.bool s1) (.slice m1 n1 c1) (.bool s2) (.slice m2 n2 c2))
      replace I1 := hide (I1.out.keep (R0.out.keeps (by simp) (by simp) (by simp) (by simp) (.bool s1) (.slice m1 n1 c1) (.bool s2) (.slice m2 n2 c2)))
      replace I2 := hide (I2.out.keep (R0.out.keeps (by simp) (by simp) (by simp) (by simp) (.bool s1) (.slice m1 n1 c1) (.bool s2) (.slice m2 n2 c2)))
      replace R0 := hide (R0.out.put (.bool s1) (.slice m1 n1 c1) (.bool s2) (.slice m2 n2 c2))
      refine hK _ _ (fun _ => HF'.out) ?_
      clear hK K HF hc0 hf0 hc1 hf1 hc2 hf2 hc3 hf3
      have HF := hide HF'.out
      clear HF'
      generalize ((((x7d.setCell ⟨w.heap.size, 0, none⟩ (.bool s1)).setCell ⟨w.heap.size, 1, none⟩ (.slice m1 n1 c1)).setCell ⟨w.heap.size, 2, none⟩ (.bool s2)).setCell ⟨w.heap.size, 3, none⟩ (.slice m2 n2 c2)) = y1 at *
      refine Calm.one (i := 3) (l' := #[true, true, true, true]) (by kernel_rfl) rfl rfl rfl fun K hK => ?_
      have hc0 := R1.out.cell0
      have hc1 := R1.out.cell1
      have hf0 := R1.out.free 0
      have hf1 := R1.out.free 1
      go_simp
      have HF' := hide (And.intro (below_put HF.out.1 (show w.heap.size ≤ (w.heap.size + 1) by have hx := LTS.out; omega) (.int .i64 6) (.int .i64 ((a.size : Int) + 1))) (And.intro (HF.out.2.1.other (C := (w.heap.size + 1)) (by have hx := LTS.out; omega) (.int .i64 6) (.int .i64 ((a.size : Int) + 1))) (HF.out.2.2.other (C := (w.heap.size + 1)) (by have hx := LTS.out; omega) (.int .i64 6) (.int .i64 ((a.size : Int) + 1)))))
      replace R0 := hide (R0.out.other (C := (w.heap.size + 1)) (by have hx := LTS.out; omega) (.int .i64 6) (.int .i64 ((a.size : Int) + 1)))
      replace I1 := hide (I1.out.keep (R1.out.keeps (by simp) (by simp) (.int .i64 6) (.int .i64 ((a.size : Int) + 1))))
      replace I2 := hide (I2.out.keep (R1.out.keeps (by simp) (by simp) (.int .i64 6) (.int .i64 ((a.size : Int) + 1))))
      replace R1 := hide (R1.out.put (.int .i64 6) (.int .i64 ((a.size : Int) + 1)))
      refine hK _ _ (fun _ => HF'.out) ?_
      clear hK K HF hc0 hf0 hc1 hf1
      have HF := hide HF'.out
      clear HF'
      generalize ((y1.setCell ⟨(w.heap.size + 1), 0, none⟩ (.int .i64 6)).setCell ⟨(w.heap.size + 1), 1, none⟩ (.int .i64 ((a.size : Int) + 1))) = y2 at *
      refine Calm.done (by kernel_rfl) ?_
      replace HB := hide HF.out.1
      replace PT := hide HF.out.2.1
      replace PS := hide HF.out.2.2
      clear HF
      try simp only [List.setIfInBounds_toArray, List.set_cons_succ, List.set_cons_zero]
      go_wp2
      try rw [Exit.noGoto_ret]
      refine ret_terms rfl w.heap.size (w.heap.size + 1) _ _ _ _ _ _ rfl rfl R0.out R1.out rfl ?_
      exact ⟨⟨_, _, _, _, _, _, _, _, z1, z2, 6, (a.size + 1), rfl, I1.out, I2.out, .inr ⟨H1.out, p2, q2, H2.out, .inl ⟨by rw [E45.out]; rfl, rfl, rfl⟩⟩⟩, HB.out⟩
    | false =>
      go_wp2_with fail
      refine (hasPrefix_any b 48 _ (Nat.le_trans LB.out (by decide))).mono ?_
      rintro e u6 ⟨rfl, rfl⟩
      rw [E48.out]
      cases h48 with
      | true =>
        have hPS0 := PS.out.cell0
        have hPS1 := PS.out.cell1
        have fPS0 := PS.out.free 0
        have fPS1 := PS.out.free 1
        go_upto_region 9 with fail
        clear hPS0 hPS1 fPS0 fPS1
        have KB := hide (PS.out.keeps (by simp) (by simp) (.int .i64 6) (.int .i64 0))
        replace HB := hide (below_put (C := g + 1) HB.out (show w.heap.size ≤ g + 1 by have hx := LTS.out; omega) (.int .i64 6) (.int .i64 0))
        replace R0 := hide (R0.out.other (C := g + 1) (by have hx := LTS.out; omega) (.int .i64 6) (.int .i64 0))
        replace R1 := hide (R1.out.other (C := g + 1) (by have hx := LTS.out; omega) (.int .i64 6) (.int .i64 0))
        replace PT := hide (PT.out.other (C := g + 1) (by omega) (.int .i64 6) (.int .i64 0))
        replace PS := hide (PS.out.put (.int .i64 6) (.int .i64 0))
        replace I1 := hide (I1.out.keep KB.out)
        replace I2 := hide (I2.out.keep KB.out)
        clear KB
        generalize ((u6.setCell ⟨g + 1, 0, none⟩ (.int .i64 6)).setCell ⟨g + 1, 1, none⟩ (.int .i64 0)) = x6 at *
        have hPS0 := PS.out.cell0
        have hPS1 := PS.out.cell1
        have fPS0 := PS.out.free 0
        have fPS1 := PS.out.free 1
        have ha := LA.out
        go_upto_region 12 with fail
        clear ha
        clear hPS0 hPS1 fPS0 fPS1
        have KA : Hid (Spares x6 (x6.setCell ⟨g + 1, 1, none⟩ (.int .i64 ((a.size : Int) + 1)))) := hide (Spares.set PS.out.cell1 (by simp) _)
        replace HB := hide (HB.out.setCell (p := ⟨g + 1, 1, none⟩) (show w.heap.size ≤ g + 1 by have hx := LTS.out; omega) (.int .i64 ((a.size : Int) + 1)))
        replace R0 := hide (R0.out.set_ne (C := g + 1) (o := 1) (by have hx := LTS.out; omega) (.int .i64 ((a.size : Int) + 1)))
        replace R1 := hide (show BoxS _ _ _ _ from Box2.set_ne R1.out (C := g + 1) (o := 1) (by have hx := LTS.out; omega) (.int .i64 ((a.size : Int) + 1)))
        replace PT := hide (PT.out.set_ne (C := g + 1) (o := 1) (by omega) (.int .i64 ((a.size : Int) + 1)))
        replace PS := hide (PS.out.put1 (.int .i64 ((a.size : Int) + 1)))
        replace I1 := hide (I1.out.keep KA.out)
        replace I2 := hide (I2.out.keep KA.out)
        clear KA
        generalize x6.setCell ⟨g + 1, 1, none⟩ (.int .i64 ((a.size : Int) + 1)) = x7 at *
        replace R0 := hide R0.out.drew
        replace R1 := hide R1.out.drew
        replace I1 := hide I1.out.drew
        replace I2 := hide I2.out.drew
        refine wp_calm (fun w' => Below w.heap.size w w' ∧ BoxA w' g (.bool s1) (.slice m1 n1 c1) (.bool s2) (.slice m2 n2 c2) ∧ BoxS w' (g + 1) (.int .i64 6) (.int .i64 ((a.size : Int) + 1))) (fun _ => true) 4 #[false, false, false, false] (by kernel_rfl) rfl rfl ?_
        have HF := hide (And.intro (HB.out.drew) (And.intro (PT.out.drew) (PS.out.drew)))
        generalize x7.drew = x7d at *
        refine Calm.take (i := 0) (v := ?_) (a' := ?_) (l' := #[true, false, false, false]) (d := some 48) rfl (by kernel_rfl) (by kernel_rfl) (by kernel_rfl) (by kernel_rfl) (fun _ _ _ h => h) HF.out rfl ?_ rfl rfl ?_ ?_
        rotate_left
        · intro w' hF; have f10 := hF.2.1.cell0; have f11 := hF.2.1.cell1; have f12 := hF.2.1.cell2; have f13 := hF.2.1.cell3; have f20 := hF.2.2.cell0; have f21 := hF.2.2.cell1; clear hF; go_simp; try rfl
        rotate_left
        · simp only [Act.put]; exact rfl
        refine Calm.take (i := 1) (v := ?_) (a' := ?_) (l' := #[true, true, false, false]) (d := some 49) rfl (by kernel_rfl) (by kernel_rfl) (by kernel_rfl) (by kernel_rfl) (fun _ _ _ h => h) HF.out rfl ?_ rfl rfl ?_ ?_
        rotate_left
        · intro w' hF; have f10 := hF.2.1.cell0; have f11 := hF.2.1.cell1; have f12 := hF.2.1.cell2; have f13 := hF.2.1.cell3; have f20 := hF.2.2.cell0; have f21 := hF.2.2.cell1; clear hF; go_simp; try rfl
        rotate_left
        · simp only [Act.put]; exact rfl
        refine Calm.one (i := 2) (l' := #[true, true, true, false]) (by kernel_rfl) rfl rfl rfl fun K hK => ?_
        have hc0 := R0.out.cell0
        have hc1 := R0.out.cell1
        have hc2 := R0.out.cell2
        have hc3 := R0.out.cell3
        have hf0 := R0.out.free 0
        have hf1 := R0.out.free 1
        have hf2 := R0.out.free 2
        have hf3 := R0.out.free 3
        go_simp
        have HF' := hide (And.intro (below_put4 HF.out.1 (show w.heap.size ≤ w.heap.size by have hx := LTS.out; omega) (.bool s1) (.slice m1 n1 c1) (.bool s2) (.slice m2 n2 c2)) (And.intro (HF.out.2.1.other4 (C := w.heap.size) (by have hx := LTS.out; omega) (.bool s1) (.slice m1 n1 c1) (.bool s2) (.slice m2 n2 c2)) (HF.out.2.2.other4 (C := w.heap.size) (by have hx := LTS.out; omega) (.bool s1) (.slice m1 n1 c1) (.bool s2) (.slice m2 n2 c2))))
        replace R1 := hide (R1.out.other4 (C := w.heap.size) (by have hx := LTS.out; omega) (.bool s1) (.slice m1 n1 c1) (.bool s2) (.slice m2 n2 c2))
        replace I1 := hide (I1.out.keep (R0.out.keeps (by simp) (by simp) (by simp) (by simp) (.bool s1) (.slice m1 n1 c1) (.bool s2) (.slice m2 n2 c2)))
        replace I2 := hide (I2.out.keep (R0.out.keeps (by simp) (by simp) (by simp) (by simp) (.bool s1) (.slice m1 n1 c1) (.bool s2) (.slice m2 n2 c2)))
        replace R0 := hide (R0.out.put (.bool s1) (.slice m1 n1 c1) (.bool s2) (.slice m2 n2 c2))
        refine hK _ _ (fun _ => HF'.out) ?_
        clear hK K HF hc0 hf0 hc1 hf1 hc2 hf2 hc3 hf3
        have HF := hide HF'.out
        clear HF'
        generalize ((((x7d.setCell ⟨w.heap.size, 0, none⟩ (.bool s1)).setCell ⟨w.heap.size, 1, none⟩ (.slice m1 n1 c1)).setCell ⟨w.heap.size, 2, none⟩ (.bool s2)).setCell ⟨w.heap.size, 3, none⟩ (.slice m2 n2 c2)) = y1 at *
        refine Calm.one (i := 3) (l' := #[true, true, true, true]) (by kernel_rfl) rfl rfl rfl fun K hK => ?_
        have hc0 := R1.out.cell0
        have hc1 := R1.out.cell1
        have hf0 := R1.out.free 0
        have hf1 := R1.out.free 1
        go_simp
        have HF' := hide (And.intro (below_put HF.out.1 (show w.heap.size ≤ (w.heap.size + 1) by have hx := LTS.out; omega) (.int .i64 6) (.int .i64 ((a.size : Int) + 1))) (And.intro (HF.out.2.1.other (C := (w.heap.size + 1)) (by have hx := LTS.out; omega) (.int .i64 6) (.int .i64 ((a.size : Int) + 1))) (HF.out.2.2.other (C := (w.heap.size + 1)) (by have hx := LTS.out; omega) (.int .i64 6) (.int .i64 ((a.size : Int) + 1)))))
        replace R0 := hide (R0.out.other (C := (w.heap.size + 1)) (by have hx := LTS.out; omega) (.int .i64 6) (.int .i64 ((a.size : Int) + 1)))
        replace I1 := hide (I1.out.keep (R1.out.keeps (by simp) (by simp) (.int .i64 6) (.int .i64 ((a.size : Int) + 1))))
        replace I2 := hide (I2.out.keep (R1.out.keeps (by simp) (by simp) (.int .i64 6) (.int .i64 ((a.size : Int) + 1))))
        replace R1 := hide (R1.out.put (.int .i64 6) (.int .i64 ((a.size : Int) + 1)))
        refine hK _ _ (fun _ => HF'.out) ?_
        clear hK K HF hc0 hf0 hc1 hf1
        have HF := hide HF'.out
        clear HF'
        generalize ((y1.setCell ⟨(w.heap.size + 1), 0, none⟩ (.int .i64 6)).setCell ⟨(w.heap.size + 1), 1, none⟩ (.int .i64 ((a.size : Int) + 1))) = y2 at *
        refine Calm.done (by kernel_rfl) ?_
        replace HB := hide HF.out.1
        replace PT := hide HF.out.2.1
        replace PS := hide HF.out.2.2
        clear HF
        try simp only [List.setIfInBounds_toArray, List.set_cons_succ, List.set_cons_zero]
        go_wp2
        try rw [Exit.noGoto_ret]
        refine ret_terms rfl w.heap.size (w.heap.size + 1) _ _ _ _ _ _ rfl rfl R0.out R1.out rfl ?_
        exact ⟨⟨_, _, _, _, _, _, _, _, z1, z2, 6, (a.size + 1), rfl, I1.out, I2.out, .inr ⟨H1.out, p2, q2, H2.out, .inl ⟨by rw [E45.out]; rw [E48.out]; rfl, rfl, rfl⟩⟩⟩, HB.out⟩
      | false =>
        by_cases hz : p2 = 0
        · subst hz
          have hPS0 := PS.out.cell0
          have hPS1 := PS.out.cell1
          have fPS0 := PS.out.free 0
          have fPS1 := PS.out.free 1
          go_wp2_with fail
          rw [rounds_succ]
          go_upto_region 12 with fail
          clear hPS0 hPS1 fPS0 fPS1
          obtain rfl := H2.out.zero0
          replace R0 := hide R0.out.drew
          replace R1 := hide R1.out.drew
          replace I1 := hide I1.out.drew
          replace I2 := hide I2.out.drew
          refine wp_calm (fun w' => Below w.heap.size w w' ∧ BoxA w' g (.bool s1) (.slice m1 n1 c1) (.bool s2) (.slice m2 n2 c2) ∧ BoxS w' (g + 1) (.int .i64 ((0 : Nat) : Int)) (.int .i64 ((0 : Nat) : Int))) (fun _ => true) 4 #[false, false, false, false] (by kernel_rfl) rfl rfl ?_
          have HF := hide (And.intro (HB.out.drew) (And.intro (PT.out.drew) (PS.out.drew)))
          generalize u6.drew = u6d at *
          refine Calm.take (i := 0) (v := ?_) (a' := ?_) (l' := #[true, false, false, false]) (d := some 48) rfl (by kernel_rfl) (by kernel_rfl) (by kernel_rfl) (by kernel_rfl) (fun _ _ _ h => h) HF.out rfl ?_ rfl rfl ?_ ?_
          rotate_left
          · intro w' hF; have f10 := hF.2.1.cell0; have f11 := hF.2.1.cell1; have f12 := hF.2.1.cell2; have f13 := hF.2.1.cell3; have f20 := hF.2.2.cell0; have f21 := hF.2.2.cell1; clear hF; go_simp; try rfl
          rotate_left
          · simp only [Act.put]; exact rfl
          refine Calm.take (i := 1) (v := ?_) (a' := ?_) (l' := #[true, true, false, false]) (d := some 49) rfl (by kernel_rfl) (by kernel_rfl) (by kernel_rfl) (by kernel_rfl) (fun _ _ _ h => h) HF.out rfl ?_ rfl rfl ?_ ?_
          rotate_left
          · intro w' hF; have f10 := hF.2.1.cell0; have f11 := hF.2.1.cell1; have f12 := hF.2.1.cell2; have f13 := hF.2.1.cell3; have f20 := hF.2.2.cell0; have f21 := hF.2.2.cell1; clear hF; go_simp; try rfl
          rotate_left
          · simp only [Act.put]; exact rfl
          refine Calm.one (i := 2) (l' := #[true, true, true, false]) (by kernel_rfl) rfl rfl rfl fun K hK => ?_
          have hc0 := R0.out.cell0
          have hc1 := R0.out.cell1
          have hc2 := R0.out.cell2
          have hc3 := R0.out.cell3
          have hf0 := R0.out.free 0
          have hf1 := R0.out.free 1
          have hf2 := R0.out.free 2
          have hf3 := R0.out.free 3
          go_simp
          have HF' := hide (And.intro (below_put4 HF.out.1 (show w.heap.size ≤ w.heap.size by have hx := LTS.out; omega) (.bool s1) (.slice m1 n1 c1) (.bool s2) (.slice m2 n2 c2)) (And.intro (HF.out.2.1.other4 (C := w.heap.size) (by have hx := LTS.out; omega) (.bool s1) (.slice m1 n1 c1) (.bool s2) (.slice m2 n2 c2)) (HF.out.2.2.other4 (C := w.heap.size) (by have hx := LTS.out; omega) (.bool s1) (.slice m1 n1 c1) (.bool s2) (.slice m2 n2 c2))))
          replace R1 := hide (R1.out.other4 (C := w.heap.size) (by have hx := LTS.out; omega) (.bool s1) (.slice m1 n1 c1) (.bool s2) (.slice m2 n2 c2))
          replace I1 := hide (I1.out.keep (R0.out.keeps (by simp) (by simp) (by simp) (by simp) (.bool s1) (.slice m1 n1 c1) (.bool s2) (.slice m2 n2 c2)))
          replace I2 := hide (I2.out.keep (R0.out.keeps (by simp) (by simp) (by simp) (by simp) (.bool s1) (.slice m1 n1 c1) (.bool s2) (.slice m2 n2 c2)))
          replace R0 := hide (R0.out.put (.bool s1) (.slice m1 n1 c1) (.bool s2) (.slice m2 n2 c2))
          refine hK _ _ (fun _ => HF'.out) ?_
          clear hK K HF hc0 hf0 hc1 hf1 hc2 hf2 hc3 hf3
          have HF := hide HF'.out
          clear HF'
          generalize ((((u6d.setCell ⟨w.heap.size, 0, none⟩ (.bool s1)).setCell ⟨w.heap.size, 1, none⟩ (.slice m1 n1 c1)).setCell ⟨w.heap.size, 2, none⟩ (.bool s2)).setCell ⟨w.heap.size, 3, none⟩ (.slice m2 n2 c2)) = y1 at *
          refine Calm.one (i := 3) (l' := #[true, true, true, true]) (by kernel_rfl) rfl rfl rfl fun K hK => ?_
          have hc0 := R1.out.cell0
          have hc1 := R1.out.cell1
          have hf0 := R1.out.free 0
          have hf1 := R1.out.free 1
          go_simp
          have HF' := hide (And.intro (below_put HF.out.1 (show w.heap.size ≤ (w.heap.size + 1) by have hx := LTS.out; omega) (.int .i64 ((0 : Nat) : Int)) (.int .i64 ((0 : Nat) : Int))) (And.intro (HF.out.2.1.other (C := (w.heap.size + 1)) (by have hx := LTS.out; omega) (.int .i64 ((0 : Nat) : Int)) (.int .i64 ((0 : Nat) : Int))) (HF.out.2.2.other (C := (w.heap.size + 1)) (by have hx := LTS.out; omega) (.int .i64 ((0 : Nat) : Int)) (.int .i64 ((0 : Nat) : Int)))))
          replace R0 := hide (R0.out.other (C := (w.heap.size + 1)) (by have hx := LTS.out; omega) (.int .i64 ((0 : Nat) : Int)) (.int .i64 ((0 : Nat) : Int)))
          replace I1 := hide (I1.out.keep (R1.out.keeps (by simp) (by simp) (.int .i64 ((0 : Nat) : Int)) (.int .i64 ((0 : Nat) : Int))))
          replace I2 := hide (I2.out.keep (R1.out.keeps (by simp) (by simp) (.int .i64 ((0 : Nat) : Int)) (.int .i64 ((0 : Nat) : Int))))
          replace R1 := hide (R1.out.put (.int .i64 ((0 : Nat) : Int)) (.int .i64 ((0 : Nat) : Int)))
          refine hK _ _ (fun _ => HF'.out) ?_
          clear hK K HF hc0 hf0 hc1 hf1
          have HF := hide HF'.out
          clear HF'
          generalize ((y1.setCell ⟨(w.heap.size + 1), 0, none⟩ (.int .i64 ((0 : Nat) : Int))).setCell ⟨(w.heap.size + 1), 1, none⟩ (.int .i64 ((0 : Nat) : Int))) = y2 at *
          refine Calm.done (by kernel_rfl) ?_
          replace HB := hide HF.out.1
          replace PT := hide HF.out.2.1
          replace PS := hide HF.out.2.2
          clear HF
          try simp only [List.setIfInBounds_toArray, List.set_cons_succ, List.set_cons_zero]
          go_wp2
          try rw [Exit.noGoto_ret]
          refine ret_terms rfl w.heap.size (w.heap.size + 1) _ _ _ _ _ _ rfl rfl R0.out R1.out rfl ?_
          exact ⟨⟨_, _, _, _, _, _, _, _, z1, z2, 0, 0, rfl, I1.out, I2.out, .inr ⟨H1.out, 0, 0, H2.out, .inr (.inr ⟨by rw [E45.out, E48.out]; rfl, rfl, rfl, rfl⟩)⟩⟩, HB.out⟩
        · have hne : ((p2 : Int) != 0) = true := by simp; omega
          have hPS0 := PS.out.cell0
          have hPS1 := PS.out.cell1
          have fPS0 := PS.out.free 0
          have fPS1 := PS.out.free 1
          have hb2 := B2.out
          have ha := LA.out
          go_upto_region 12 with fail
          clear hPS0 hPS1 fPS0 fPS1
          clear hb2 ha
          skip
          have KA : Hid (Spares u6 (u6.setCell ⟨g + 1, 1, none⟩ (.int .i64 ((q2 : Int) + ((a.size : Int) + 1))))) := hide (Spares.set PS.out.cell1 (by simp) _)
          replace HB := hide (HB.out.setCell (p := ⟨g + 1, 1, none⟩) (show w.heap.size ≤ g + 1 by have hx := LTS.out; omega) (.int .i64 ((q2 : Int) + ((a.size : Int) + 1))))
          replace R0 := hide (R0.out.set_ne (C := g + 1) (o := 1) (by have hx := LTS.out; omega) (.int .i64 ((q2 : Int) + ((a.size : Int) + 1))))
          replace R1 := hide (show BoxS _ _ _ _ from Box2.set_ne R1.out (C := g + 1) (o := 1) (by have hx := LTS.out; omega) (.int .i64 ((q2 : Int) + ((a.size : Int) + 1))))
          replace PT := hide (PT.out.set_ne (C := g + 1) (o := 1) (by omega) (.int .i64 ((q2 : Int) + ((a.size : Int) + 1))))
          replace PS := hide (PS.out.put1 (.int .i64 ((q2 : Int) + ((a.size : Int) + 1))))
          replace I1 := hide (I1.out.keep KA.out)
          replace I2 := hide (I2.out.keep KA.out)
          clear KA
          generalize u6.setCell ⟨g + 1, 1, none⟩ (.int .i64 ((q2 : Int) + ((a.size : Int) + 1))) = x7 at *
          clear hne
          replace R0 := hide R0.out.drew
          replace R1 := hide R1.out.drew
          replace I1 := hide I1.out.drew
          replace I2 := hide I2.out.drew
          refine wp_calm (fun w' => Below w.heap.size w w' ∧ BoxA w' g (.bool s1) (.slice m1 n1 c1) (.bool s2) (.slice m2 n2 c2) ∧ BoxS w' (g + 1) (.int .i64 ((p2 : Nat) : Int)) (.int .i64 ((q2 : Int) + ((a.size : Int) + 1)))) (fun _ => true) 4 #[false, false, false, false] (by kernel_rfl) rfl rfl ?_
          have HF := hide (And.intro (HB.out.drew) (And.intro (PT.out.drew) (PS.out.drew)))
          generalize x7.drew = x7d at *
          refine Calm.take (i := 0) (v := ?_) (a' := ?_) (l' := #[true, false, false, false]) (d := some 48) rfl (by kernel_rfl) (by kernel_rfl) (by kernel_rfl) (by kernel_rfl) (fun _ _ _ h => h) HF.out rfl ?_ rfl rfl ?_ ?_
          rotate_left
          · intro w' hF; have f10 := hF.2.1.cell0; have f11 := hF.2.1.cell1; have f12 := hF.2.1.cell2; have f13 := hF.2.1.cell3; have f20 := hF.2.2.cell0; have f21 := hF.2.2.cell1; clear hF; go_simp; try rfl
          rotate_left
          · simp only [Act.put]; exact rfl
          refine Calm.take (i := 1) (v := ?_) (a' := ?_) (l' := #[true, true, false, false]) (d := some 49) rfl (by kernel_rfl) (by kernel_rfl) (by kernel_rfl) (by kernel_rfl) (fun _ _ _ h => h) HF.out rfl ?_ rfl rfl ?_ ?_
          rotate_left
          · intro w' hF; have f10 := hF.2.1.cell0; have f11 := hF.2.1.cell1; have f12 := hF.2.1.cell2; have f13 := hF.2.1.cell3; have f20 := hF.2.2.cell0; have f21 := hF.2.2.cell1; clear hF; go_simp; try rfl
          rotate_left
          · simp only [Act.put]; exact rfl
          refine Calm.one (i := 2) (l' := #[true, true, true, false]) (by kernel_rfl) rfl rfl rfl fun K hK => ?_
          have hc0 := R0.out.cell0
          have hc1 := R0.out.cell1
          have hc2 := R0.out.cell2
          have hc3 := R0.out.cell3
          have hf0 := R0.out.free 0
          have hf1 := R0.out.free 1
          have hf2 := R0.out.free 2
          have hf3 := R0.out.free 3
          go_simp
          have HF' := hide (And.intro (below_put4 HF.out.1 (show w.heap.size ≤ w.heap.size by have hx := LTS.out; omega) (.bool s1) (.slice m1 n1 c1) (.bool s2) (.slice m2 n2 c2)) (And.intro (HF.out.2.1.other4 (C := w.heap.size) (by have hx := LTS.out; omega) (.bool s1) (.slice m1 n1 c1) (.bool s2) (.slice m2 n2 c2)) (HF.out.2.2.other4 (C := w.heap.size) (by have hx := LTS.out; omega) (.bool s1) (.slice m1 n1 c1) (.bool s2) (.slice m2 n2 c2))))
          replace R1 := hide (R1.out.other4 (C := w.heap.size) (by have hx := LTS.out; omega) (.bool s1) (.slice m1 n1 c1) (.bool s2) (.slice m2 n2 c2))
          replace I1 := hide (I1.out.keep (R0.out.keeps (by simp) (by simp) (by simp) (by simp) (.bool s1) (.slice m1 n1 c1) (.bool s2) (.slice m2 n2 c2)))
          replace I2 := hide (I2.out.keep (R0.out.keeps (by simp) (by simp) (by simp) (by simp) (.bool s1) (.slice m1 n1 c1) (.bool s2) (.slice m2 n2 c2)))
          replace R0 := hide (R0.out.put (.bool s1) (.slice m1 n1 c1) (.bool s2) (.slice m2 n2 c2))
          refine hK _ _ (fun _ => HF'.out) ?_
          clear hK K HF hc0 hf0 hc1 hf1 hc2 hf2 hc3 hf3
          have HF := hide HF'.out
          clear HF'
          generalize ((((x7d.setCell ⟨w.heap.size, 0, none⟩ (.bool s1)).setCell ⟨w.heap.size, 1, none⟩ (.slice m1 n1 c1)).setCell ⟨w.heap.size, 2, none⟩ (.bool s2)).setCell ⟨w.heap.size, 3, none⟩ (.slice m2 n2 c2)) = y1 at *
          refine Calm.one (i := 3) (l' := #[true, true, true, true]) (by kernel_rfl) rfl rfl rfl fun K hK => ?_
          have hc0 := R1.out.cell0
          have hc1 := R1.out.cell1
          have hf0 := R1.out.free 0
          have hf1 := R1.out.free 1
          go_simp
          have HF' := hide (And.intro (below_put HF.out.1 (show w.heap.size ≤ (w.heap.size + 1) by have hx := LTS.out; omega) (.int .i64 ((p2 : Nat) : Int)) (.int .i64 ((q2 : Int) + ((a.size : Int) + 1)))) (And.intro (HF.out.2.1.other (C := (w.heap.size + 1)) (by have hx := LTS.out; omega) (.int .i64 ((p2 : Nat) : Int)) (.int .i64 ((q2 : Int) + ((a.size : Int) + 1)))) (HF.out.2.2.other (C := (w.heap.size + 1)) (by have hx := LTS.out; omega) (.int .i64 ((p2 : Nat) : Int)) (.int .i64 ((q2 : Int) + ((a.size : Int) + 1))))))
          replace R0 := hide (R0.out.other (C := (w.heap.size + 1)) (by have hx := LTS.out; omega) (.int .i64 ((p2 : Nat) : Int)) (.int .i64 ((q2 : Int) + ((a.size : Int) + 1))))
          replace I1 := hide (I1.out.keep (R1.out.keeps (by simp) (by simp) (.int .i64 ((p2 : Nat) : Int)) (.int .i64 ((q2 : Int) + ((a.size : Int) + 1)))))
          replace I2 := hide (I2.out.keep (R1.out.keeps (by simp) (by simp) (.int .i64 ((p2 : Nat) : Int)) (.int .i64 ((q2 : Int) + ((a.size : Int) + 1)))))
          replace R1 := hide (R1.out.put (.int .i64 ((p2 : Nat) : Int)) (.int .i64 ((q2 : Int) + ((a.size : Int) + 1))))
          refine hK _ _ (fun _ => HF'.out) ?_
          clear hK K HF hc0 hf0 hc1 hf1
          have HF := hide HF'.out
          clear HF'
          generalize ((y1.setCell ⟨(w.heap.size + 1), 0, none⟩ (.int .i64 ((p2 : Nat) : Int))).setCell ⟨(w.heap.size + 1), 1, none⟩ (.int .i64 ((q2 : Int) + ((a.size : Int) + 1)))) = y2 at *
          refine Calm.done (by kernel_rfl) ?_
          replace HB := hide HF.out.1
          replace PT := hide HF.out.2.1
          replace PS := hide HF.out.2.2
          clear HF
          try simp only [List.setIfInBounds_toArray, List.set_cons_succ, List.set_cons_zero]
          go_wp2
          try rw [Exit.noGoto_ret]
          refine ret_terms rfl w.heap.size (w.heap.size + 1) _ _ _ _ _ _ rfl rfl R0.out R1.out rfl ?_
          exact ⟨⟨_, _, _, _, _, _, _, _, z1, z2, p2, (q2 + (a.size + 1)), rfl, I1.out, I2.out, .inr ⟨H1.out, p2, q2, H2.out, .inr (.inl ⟨by rw [E45.out, E48.out]; rfl, hz, rfl, rfl⟩)⟩⟩, HB.out⟩
end Go.Proofs.Ytgkibmigbjjnnaa

namespace Go.Proofs.Ytgkibmigbjjnnaa
open Go.RowKit Go.Shelf
attribute [local go_sem] Oper.semAt_some

/-- the bytes of a text, and back -/
def bl (s : ByteArray) : List UInt8 := s.data.toList
def mkB (l : List UInt8) : ByteArray := ⟨l.toArray⟩
theorem mkB_bl (s : ByteArray) : mkB (bl s) = s := by show (⟨s.data.toList.toArray⟩ : ByteArray) = s; rw [Array.toArray_toList]
theorem bl_len (s : ByteArray) : (bl s).length = s.size := by show s.data.toList.length = s.data.size; rw [Array.length_toList]
theorem bl_ext (s : ByteArray) (a b : Nat) : bl (s.extract a b) = ((bl s).take b).drop a := by
  unfold bl
  rw [ByteArray.data_extract, Array.toList_extract, List.extract_eq_take_drop, List.drop_take]
/-- cut at each byte c -/
def spl (c : UInt8) : List UInt8 → List (List UInt8)
  | [] => [[]]
  | b :: l => if b = c then [] :: spl c l else
    match spl c l with
    | [] => [[b]]
    | p :: ps => (b :: p) :: ps
def splB (c : UInt8) (s : ByteArray) : List ByteArray := (spl c (bl s)).map mkB
theorem idx_cases (l : List UInt8) (c : UInt8) : (Lib.indexByte l c = -1 ∧ c ∉ l) ∨ ∃ o : Nat, Lib.indexByte l c = (o : Int) ∧ o < l.length ∧ l = l.take o ++ c :: l.drop (o + 1) ∧ c ∉ l.take o := by
  rcases Int.lt_or_le (Lib.indexByte l c) 0 with h | h
  · have e : Lib.indexByte l c = -1 := by have := Lib.indexByte_ge l c; omega
    refine .inl ⟨e, fun hm => ?_⟩
    obtain ⟨k, hk⟩ := List.getElem?_of_mem hm
    exact Lib.indexByte_none e k hk
  · obtain ⟨o, ho⟩ : ∃ o : Nat, Lib.indexByte l c = (o : Int) := ⟨(Lib.indexByte l c).toNat, by omega⟩
    obtain ⟨h1, h2⟩ := Lib.indexByte_some ho
    have hl := (List.getElem?_eq_some_iff.1 h1).1
    refine .inr ⟨o, ho, hl, ?_, fun hm => ?_⟩
    · have e : l.drop o = c :: l.drop (o + 1) := by rw [List.drop_eq_getElem_cons hl, (List.getElem?_eq_some_iff.1 h1).2]
      rw [← e, List.take_append_drop]
    · obtain ⟨k, hk⟩ := List.getElem?_of_mem hm
      have hlt := (List.getElem?_eq_some_iff.1 hk).1
      rw [List.length_take] at hlt
      rw [List.getElem?_take, if_pos (by omega)] at hk
      exact h2 k (by omega) hk
/-- strings.Cut by one byte -/
def cutB (c : UInt8) (s : ByteArray) : ByteArray × ByteArray × Bool :=
  if Lib.indexByte (bl s) c < 0 then (s, ByteArray.empty, false) else (s.extract 0 (Lib.indexByte (bl s) c).toNat, s.extract ((Lib.indexByte (bl s) c).toNat + 1) s.size, true)
set_option maxRecDepth 100000 in
theorem cut_lite (s : ByteArray) (c : UInt8) (w : World) (hs : s.size ≤ 4000000000) : Calls Try.prog 66 #[.string s, .string ⟨#[c]⟩] w fun e w' => e = .returned (.tuple #[.string (cutB c s).1, .string (cutB c s).2.1, .bool (cutB c s).2.2]) ∧ Below w.heap.size w w' := by
  have hl2 : (⟨#[c]⟩ : ByteArray).size = 1 := rfl
  obtain ⟨sp, hsp⟩ : ∃ sp : ByteArray, sp = ⟨#[c]⟩ := ⟨_, rfl⟩
  have IX : Hid (∀ (s : ByteArray) (w : World), Calls Try.prog 94 #[.string s, .string sp] w fun e w' => e = .returned (.int .i64 (Lib.indexByte s.data.toList c)) ∧ w' = w) := hide (by rw [hsp]; exact fun s w => Try.stringslite_Index_one s c w)
  rw [← hsp] at hl2 ⊢
  clear hsp
  go_enter Try.func66, Try.ntmps66
  go_wp2_with fail
  refine (IX.out s w).mono ?_
  rintro e w' ⟨rfl, rfl⟩
  rcases idx_cases (bl s) c with ⟨e, hn⟩ | ⟨o, e, ho, hb, hn⟩
  · rw [show Lib.indexByte s.data.toList c = -1 from e]
    have CB : Hid (cutB c s = (s, ByteArray.empty, false)) := hide (by unfold cutB; rw [e]; rfl)
    clear e hn
    go_wp2
    go_ret3
    rw [CB.out]
    exact ⟨rfl, Below.refl _ _⟩
  · rw [show Lib.indexByte s.data.toList c = (o : Int) from e]
    have CB : Hid (cutB c s = (s.extract 0 o, s.extract (o + 1) s.size, true)) := hide (by unfold cutB; rw [e, if_neg (by omega)]; rfl)
    rw [bl_len] at ho
    clear e hn hb
    go_wp2
    go_region
    go_wp2
    go_ret3
    rw [CB.out]
    exact ⟨rfl, (Below.refl _ _).drew⟩
set_option maxRecDepth 100000 in
theorem cut_any (s : ByteArray) (c : UInt8) (w : World) (hs : s.size ≤ 4000000000) : Calls Try.prog 33 #[.string s, .string ⟨#[c]⟩] w fun e w' => e = .returned (.tuple #[.string (cutB c s).1, .string (cutB c s).2.1, .bool (cutB c s).2.2]) ∧ Below w.heap.size w w' := by
  have CL := hide (cut_lite s c w hs)
  generalize cutB c s = t at CL ⊢
  obtain ⟨x, y, z⟩ := t
  dsimp only at CL ⊢
  obtain ⟨sp, hsp⟩ : ∃ sp : ByteArray, sp = ⟨#[c]⟩ := ⟨_, rfl⟩
  rw [← hsp] at CL ⊢
  clear hsp
  go_enter Try.func33, Try.ntmps33
  go_wp2_with fail
  refine CL.out.mono ?_
  rintro e w' ⟨rfl, hb⟩
  go_wp2
  go_ret3
  exact ⟨rfl, hb⟩
end Go.Proofs.Ytgkibmigbjjnnaa

namespace Go.Proofs.Ytgkibmigbjjnnaa
open Go.RowKit

/-- what digits come to, behind a -/
def ev (a : Nat) (ds : List Nat) : Nat := ds.foldl (fun a d => a * 10 + d) a
theorem ev_digs (k g : Nat) : ∀ a, ev a (digs k g) = a * 10 ^ (k + 1) + g % 10 ^ (k + 1) := by
  induction k with
  | zero => intro a; simp [ev, digs]
  | succ k ih =>
    intro a
    have := ih (a * 10 + g / 10 ^ (k + 1) % 10)
    unfold ev at this ⊢
    rw [digs, List.foldl_cons, this, Nat.pow_succ 10 (k + 1), Nat.mod_mul, Nat.add_mul, Nat.mul_assoc, Nat.mul_comm 10, Nat.mul_comm (g / 10 ^ (k + 1) % 10)]
    omega
theorem ev_dec (n : Nat) : ev 0 (dec n) = n := by
  unfold dec
  rw [ev_digs, Nat.mod_eq_of_lt (nd_spec n).1]; omega
theorem digs_get (k g i : Nat) (h : i ≤ k) : (digs k g)[i]? = some (g / 10 ^ (k - i) % 10) := by
  induction k generalizing i with
  | zero => have : i = 0 := by omega
            subst this; simp [digs]
  | succ k ih =>
    cases i with
    | zero => simp [digs]
    | succ i => rw [digs, List.getElem?_cons_succ, ih i (by omega), Nat.add_sub_add_right]
theorem digs_le (k g : Nat) : ∀ d ∈ digs k g, d ≤ 9 := by
  induction k with
  | zero => intro d h; simp [digs] at h; omega
  | succ k ih =>
    intro d h
    rw [digs] at h
    rcases List.mem_cons.1 h with rfl | h
    · omega
    · exact ih d h
theorem bt_str (xs : List Int) (i : Nat) (n : Nat) (h : xs[i]? = some (n : Int)) (hn : n < 256) : bt (strOfNums xs) i = n := by
  obtain ⟨hi, he⟩ := List.getElem?_eq_some_iff.1 h
  have hs : i < (strOfNums xs).size := by rw [strOfNums_size]; exact hi
  rw [← bt_get _ _ hs]
  have : (strOfNums xs)[i] = UInt8.ofNat (xs[i].toNat) := by
    show (strOfNums xs).data[i]'hs = _
    simp [strOfNums]
  rw [this, he]
  simp
  omega
theorem bt_byts (ds : List Nat) (i d : Nat) (h : ds[i]? = some d) (hd : d ≤ 9) : bt (strOfNums (byts ds)) i = 48 + d := by
  refine bt_str _ _ (48 + d) ?_ (by omega)
  unfold byts
  rw [List.getElem?_map, h]; rfl
theorem nv_byts (ds : List Nat) (hd : ∀ d ∈ ds, d ≤ 9) (k : Nat) (hk : k ≤ ds.length) : nv (strOfNums (byts ds)) k = ev 0 (ds.take k) := by
  induction k with
  | zero => simp [nv, ev]
  | succ k ih =>
    have hg : ds[k]? = some ds[k] := List.getElem?_eq_getElem (by omega)
    rw [nv, ih (by omega), List.take_add_one, hg, bt_byts ds k _ hg (hd _ (List.getElem_mem _))]
    unfold ev
    rw [List.foldl_append]
    simp only [Option.toList_some, List.foldl_cons, List.foldl_nil]
    omega
theorem dec_lead (n : Nat) : ∃ d, (dec n)[0]? = some d ∧ d ≤ 9 ∧ (1 ≤ nd n → d ≠ 0) := by
  refine ⟨_, by unfold dec; exact digs_get _ _ 0 (Nat.zero_le _), by omega, fun h => ?_⟩
  obtain ⟨h1, h2⟩ := nd_spec n
  rcases h2 with h2 | h2
  · omega
  · rw [Nat.sub_zero]
    have h3 : n / 10 ^ nd n < 10 := by rw [Nat.div_lt_iff_lt_mul (pow_pos10 _), ← pow_succ10]; exact h1
    have h4 : 0 < n / 10 ^ nd n := Nat.div_pos h2 (pow_pos10 _)
    omega
theorem txt_size (n : Nat) : (txt n).size = nd n + 1 := by unfold txt; rw [strOfNums_size]; unfold byts; rw [List.length_map, dec_length]
/-- a number's text says nothing wrong, and that number -/
theorem txt_good (n : Nat) : Good (txt n) (txt n).size ∧ nv (txt n) (txt n).size = n := by
  have hle : ∀ d ∈ dec n, d ≤ 9 := digs_le _ _
  constructor
  · intro j hj
    rw [txt_size] at hj
    have hl := dec_length n
    have hg : (dec n)[j]? = some (dec n)[j] := List.getElem?_eq_getElem (by omega)
    have hb := bt_byts _ _ _ hg (hle _ (List.getElem_mem _))
    have hd := hle _ (List.getElem_mem (l := dec n) (n := j) (by omega))
    obtain ⟨d, h0, h9, hn⟩ := dec_lead n
    have hb0 := bt_byts _ _ _ h0 h9
    refine ⟨?_, ?_, fun h1 => ?_⟩
    · unfold txt; rw [hb]; omega
    · unfold txt; rw [hb]; omega
    · unfold txt; rw [hb0]; have := hn (by omega); omega
  · rw [txt_size]
    unfold txt
    rw [nv_byts _ hle _ (by rw [dec_length]; exact Nat.le_refl _), List.take_of_length_le (by rw [dec_length]; exact Nat.le_refl _), ev_dec]

theorem nv_ge (s : ByteArray) (k : Nat) (h : Good s (k + 1)) (h0 : bt s 0 ≠ 48) : 10 ^ k ≤ nv s (k + 1) := by
  induction k with
  | zero => have := (h 0 (by omega)).lo; simp [nv]; omega
  | succ k ih =>
    have := ih fun j hj => h j (by omega)
    rw [nv, pow_succ10]; omega
theorem nv_div (s : ByteArray) (j k : Nat) (h : Good s (k + j)) : nv s (k + j) / 10 ^ j = nv s k := by
  induction j with
  | zero => simp
  | succ j ih =>
    have := ih fun i hi => h i (by omega)
    have f := h (k + j) (by omega)
    have := f.lo
    have := f.hi
    rw [← Nat.add_assoc, nv, pow_succ10, ← Nat.div_div_eq_div_mul, show (nv s (k + j) * 10 + (bt s (k + j) - 48)) / 10 = nv s (k + j) by omega]
    assumption
theorem nv_nd (s : ByteArray) (k : Nat) (h : Good s (k + 1)) : nd (nv s (k + 1)) = k := by
  refine nd_unique (nv_lt s _ h) ?_
  rcases Nat.eq_zero_or_pos k with h0 | h0
  · exact .inl h0
  · exact .inr (nv_ge s k h ((h 1 (by omega)).lead (Nat.le_refl _)))
theorem byte_of (s : ByteArray) (i : Nat) (h : i < s.size) : UInt8.ofNat (bt s i) = s[i] := by
  rw [← bt_get s i h]; simp
/-- a text in which nothing is wrong is that of its number -/
theorem good_txt (s : ByteArray) (h0 : 0 < s.size) (h : Good s s.size) : txt (nv s s.size) = s := by
  obtain ⟨k, hk⟩ : ∃ k, s.size = k + 1 := ⟨s.size - 1, by omega⟩
  have hnd := nv_nd s k (hk ▸ h)
  rw [hk] at h ⊢
  apply ByteArray.ext
  apply Array.ext
  · show (txt (nv s (k + 1))).size = s.size
    rw [txt_size, hnd, hk]
  · intro i h1 h2
    have hi : i < k + 1 := by have : i < s.size := h2; omega
    have hg : (dec (nv s (k + 1)))[i]? = some (bt s i - 48) := by
      unfold dec
      rw [hnd, digs_get k _ i (by omega)]
      have e : nv s (k + 1) / 10 ^ (k - i) = nv s (i + 1) := by
        have := nv_div s (k - i) (i + 1) (by rw [show i + 1 + (k - i) = k + 1 by omega]; exact h)
        rwa [show i + 1 + (k - i) = k + 1 by omega] at this
      have f := h i hi
      have := f.lo
      have := f.hi
      rw [e, nv]
      congr 1
      omega
    have f := h i hi
    have f1 := f.lo
    have f2 := f.hi
    have hb := bt_byts _ _ _ hg (by omega)
    have e1 := byte_of (txt (nv s (k + 1))) i h1
    have e2 := byte_of s i h2
    have e3 : bt (txt (nv s (k + 1))) i = bt s i := by unfold txt; rw [hb]; omega
    rw [e3] at e1
    exact e1.symm.trans e2
end Go.Proofs.Ytgkibmigbjjnnaa

namespace Go.Proofs.Ytgkibmigbjjnnaa
open Go.RowKit

theorem str_app (xs ys : List Int) : strOfNums (xs ++ ys) = strOfNums xs ++ strOfNums ys := by
  apply ByteArray.ext
  simp [strOfNums, ByteArray.data_append]
theorem head_rest (s : ByteArray) (h : hp s 45 = true) : strOfNums [45] ++ rest1 s = s := by
  obtain ⟨h0, hb⟩ := hp_yes h
  have e : s.extract 0 1 = strOfNums [45] := by
    rw [ext1 s h0]
    have := byte_of s 0 h0
    rw [hb] at this
    rw [← this]; rfl
  unfold rest1
  rw [← e, ByteArray.extract_append_extract]
  simp

theorem IRd.same {s : ByteArray} {z z' : Int} {a b a' b' : Nat} (h : IRd s z a b) (k : IRd s z' a' b') : z = z' ∧ a = a' ∧ b = b' := by
  rcases h with ⟨h1, rfl, rfl, rfl⟩ | ⟨h1, h2, h3, rfl, rfl, rfl⟩ | ⟨h1, h2, xs, c, d, hr, h3⟩ <;>
  rcases k with ⟨k1, rfl, rfl, rfl⟩ | ⟨k1, k2, k3, rfl, rfl, rfl⟩ | ⟨k1, k2, ys, c', d', kr, k3⟩
  · exact ⟨rfl, rfl, rfl⟩
  · omega
  · omega
  · omega
  · exact ⟨rfl, rfl, rfl⟩
  · exact absurd ⟨h2, h3⟩ k2
  · omega
  · exact absurd ⟨k2, k3⟩ h2
  · obtain ⟨rfl, rfl, rfl⟩ := hr.same kr
    rcases h3 with ⟨p, rfl, rfl, rfl⟩ | ⟨p, rfl, rfl, rfl⟩ <;> rcases k3 with ⟨q, rfl, rfl, rfl⟩ | ⟨q, rfl, rfl, rfl⟩
    · exact ⟨rfl, rfl, rfl⟩
    · exact absurd q p
    · exact absurd p q
    · exact ⟨rfl, rfl, rfl⟩
/-- what is read is told as the text -/
theorem IRd.told {s : ByteArray} {z : Int} {b : Nat} (h : IRd s z 0 b) : itxt z = s ∧ s.size ≤ 65536 ∧ b = 0 := by
  rcases h with ⟨h1, _, h, _⟩ | ⟨h1, h2, h3, _, h, _⟩ | ⟨h1, h2, xs, c, d, hr, h3⟩
  · omega
  · omega
  · rcases h3 with ⟨p, _, q, _⟩ | ⟨rfl, rfl, _, rfl⟩
    · omega
    refine ⟨?_, h1, rfl⟩
    rcases hr with ⟨_, _, h, _⟩ | ⟨_, _, h, _⟩ | ⟨_, i, _, _, _, _, h, _⟩ | ⟨_, g0, g, rfl, _, _⟩
    · omega
    · omega
    · omega
    rw [val_lim]
    have ht := good_txt _ g0 g
    unfold txt at ht
    cases hc : hp s 45 with
    | false =>
      have ed : cutP s 45 = s := by unfold cutP; rw [hc]; rfl
      rw [ed] at ht g0 g ⊢
      have := itxt_pos (nv s s.size)
      simp only [Ending.returned.injEq, Value.string.injEq] at this
      rw [← this]; exact ht
    | true =>
      have ed : cutP s 45 = rest1 s := by unfold cutP; rw [hc]; rfl
      rw [ed] at ht g0 g ⊢
      have hz : nv (rest1 s) (rest1 s).size ≠ 0 := by
        intro hz
        obtain ⟨k, hk⟩ : ∃ k, (rest1 s).size = k + 1 := ⟨(rest1 s).size - 1, by omega⟩
        by_cases h48 : bt (rest1 s) 0 = 48
        · exact h2 ⟨hc, by unfold hp; exact decide_eq_true ⟨g0, h48⟩⟩
        · have := nv_ge (rest1 s) k (hk ▸ g) h48
          have := pow_pos10 k
          rw [hk] at hz
          omega
      have := itxt_neg _ hz
      simp only [Ending.returned.injEq, Value.string.injEq] at this
      rw [← this, str_app, ht]; exact head_rest s hc
theorem bt_rest (s : ByteArray) (i : Nat) : bt (rest1 s) i = bt s (i + 1) := by
  unfold bt
  by_cases h : i + 1 < s.size
  · have h' : i < (rest1 s).size := by rw [rest1_size]; omega
    rw [dif_pos h, dif_pos h']
    congr 1
    simp [rest1, ByteArray.getElem_extract, Nat.add_comm]
  · have h' : ¬ i < (rest1 s).size := by rw [rest1_size]; omega
    rw [dif_neg h, dif_neg h']
theorem itxt_size (z : Int) : (itxt z).size ≤ nd z.natAbs + 2 := by
  unfold itxt
  rw [strOfNums_size, List.length_append]
  unfold byts
  rw [List.length_map, dec_length]
  split <;> simp <;> omega
/-- what is told is read as the number -/
theorem ird_told (z : Int) (h : (itxt z).size ≤ 65536) : IRd (itxt z) z 0 0 := by
  by_cases hz : z < 0
  · have e : itxt z = strOfNums [45] ++ txt z.natAbs := by unfold itxt txt; rw [if_pos hz, str_app]
    have hc : hp (itxt z) 45 = true := by
      unfold hp
      refine decide_eq_true ⟨?_, ?_⟩
      · unfold itxt; rw [strOfNums_size, if_pos hz]; simp
      · unfold itxt; rw [if_pos hz]; exact bt_str _ 0 45 rfl (by decide)
    have er : rest1 (itxt z) = txt z.natAbs := by
      have h1 := head_rest _ hc
      rw [e] at h1
      rw [e]
      apply ByteArray.ext
      have := congrArg ByteArray.data h1
      simp only [ByteArray.data_append] at this
      exact (Array.append_right_inj _).1 this
    have ed : cutP (itxt z) 45 = txt z.natAbs := by unfold cutP; rw [hc]; exact er
    obtain ⟨g, gv⟩ := txt_good z.natAbs
    have hs := txt_size z.natAbs
    refine .inr (.inr ⟨h, ?_, lim z.natAbs, 0, 0, ?_, .inr ⟨rfl, ?_, rfl, rfl⟩⟩)
    · rintro ⟨_, h2⟩
      rw [er] at h2
      obtain ⟨_, hb⟩ := hp_yes h2
      obtain ⟨d, h0, h9, hn⟩ := dec_lead z.natAbs
      have hb0 := bt_byts _ _ _ h0 h9
      unfold txt at hb
      rw [hb0] at hb
      have hd : d = 0 := by change 48 + d = 48 at hb; omega
      subst hd
      have : nd z.natAbs = 0 := by
        rcases Nat.eq_zero_or_pos (nd z.natAbs) with h | h
        · exact h
        · exact absurd rfl (hn h)
      have h3 := ev_dec z.natAbs
      unfold dec at h3 h0
      rw [this] at h3 h0
      simp [digs, ev] at h3 h0
      omega
    · rw [ed]; exact .inr (.inr (.inr ⟨by have := itxt_size z; rw [e, ByteArray.size_append] at h; omega, by omega, g, by rw [gv], rfl, rfl⟩))
    · rw [hc, val_lim, sg_true]; omega
  · have e : itxt z = txt z.natAbs := by unfold itxt txt; rw [if_neg hz]; rfl
    obtain ⟨g, gv⟩ := txt_good z.natAbs
    have hs := txt_size z.natAbs
    have hc : hp (itxt z) 45 = false := by
      unfold hp
      refine decide_eq_false ?_
      rintro ⟨_, hb⟩
      have := (g 0 (by omega)).lo
      rw [e] at hb
      rw [hb] at this
      exact absurd this (by decide)
    have ed : cutP (itxt z) 45 = txt z.natAbs := by unfold cutP; rw [hc]; exact e
    refine .inr (.inr ⟨h, by rw [hc]; simp, lim z.natAbs, 0, 0, ?_, .inr ⟨rfl, ?_, rfl, rfl⟩⟩)
    · rw [ed]; exact .inr (.inr (.inr ⟨by rw [e] at h; exact h, by omega, g, by rw [gv], rfl, rfl⟩))
    · rw [hc, val_lim, sg_false]; omega
end Go.Proofs.Ytgkibmigbjjnnaa

namespace Go.Proofs.Ytgkibmigbjjnnaa
open Go.RowKit

theorem ret_rspot {fn : Func} {R : Ending → World → Prop} {a : Act} {w : World} {p q : Tmp} (h : fn.results = #[.cell p 27, .cell q 30]) (g g' : Nat) (x y u v x' y' : Value)
    (hp : a.tmps.getD p undef = .pointer (some ⟨g, 0, none⟩)) (hq : a.tmps.getD q undef = .pointer (some ⟨g', 0, none⟩)) (hg : Box4 w g x y u v) (hg' : BoxS w g' x' y') (hd : a.defers = []) (hR : R (.returned (.tuple #[.agg #[x, y, u, v], .agg #[x', y']])) w) : bodyPost Try.prog fn R .ret a w := by
  refine bodyPost_ret ?_ hd hR
  have hp' : a.tmps[p]?.getD undef = .pointer (some ⟨g, 0, none⟩) := by simpa using hp
  have hq' : a.tmps[q]?.getD undef = .pointer (some ⟨g', 0, none⟩) := by simpa using hq
  simp [results, h, hp', hq', asAddr, run_loadVar_row w g 27 27 #[x, y, u, v] (0, 0) _ hg Try.underlying27 rfl Try.infoRat, run_loadVar_row w g' 30 30 #[x', y'] (0, 0) _ hg' Try.underlying30 rfl Try.infoS3]
/-- what a text reads as: a fraction -/
def RRd (s : ByteArray) (q : Rat) (p b : Nat) : Prop :=
  (65536 < s.size ∧ q = 0 ∧ p = 3 ∧ b = 65536) ∨
  (s.size ≤ 65536 ∧ (cutB 47 s).2.2 = false ∧ ∃ z : Int, IRd s z p b ∧ q = (z : Rat)) ∨
  (s.size ≤ 65536 ∧ (cutB 47 s).2.2 = true ∧ ∃ z1 z2 p' b', RT (cutB 47 s).1 (cutB 47 s).2.1 z1 z2 p' b' ∧
    ((p' ≠ 0 ∧ q = 0 ∧ p = p' ∧ b = b') ∨ (p' = 0 ∧ z2 ≠ 0 ∧ dn (Rat.divInt z1 z2) ≠ z2 ∧ q = 0 ∧ p = 6 ∧ b = s.size) ∨ (p' = 0 ∧ z2 ≠ 0 ∧ dn (Rat.divInt z1 z2) = z2 ∧ q = Rat.divInt z1 z2 ∧ p = 0 ∧ b = 0)))
def RRm (s : ByteArray) (e : Ending) (w : World) : Prop := ∃ v q p b, e = .returned (.tuple #[v, .agg #[.int .i64 ((p : Nat) : Int), .int .i64 ((b : Nat) : Int)]]) ∧ RatAt w v q ∧ RRd s q p b
theorem cutB_sizes (c : UInt8) (s : ByteArray) : (cutB c s).1.size ≤ s.size ∧ (cutB c s).2.1.size ≤ s.size := by
  unfold cutB
  split
  · exact ⟨Nat.le_refl _, by show ByteArray.empty.size ≤ _; simp⟩
  · simp only [ByteArray.size_extract]; omega
theorem cmpZ_nz {x y : Int} (h : x ≠ y) : (cmpZ x y != 0) = true := by
  unfold cmpZ
  by_cases h1 : x < y
  · rw [if_pos h1]; rfl
  · rw [if_neg h1, if_neg h]; rfl
theorem ird_ne {b : ByteArray} {z : Int} (h : IRd b z 0 0) (h8 : hp b 48 = false) : z ≠ 0 := by
  rintro rfl
  have := h.told.1
  rw [← this] at h8
  exact absurd h8 (by decide +kernel)
theorem RT.ok {a b : ByteArray} {z1 z2 : Int} {q : Nat} (h : RT a b z1 z2 0 q) : q = 0 ∧ z2 ≠ 0 ∧ SzI 65536 z1 ∧ SzI 65536 z2 := by
  rcases h with ⟨_, h⟩ | ⟨h1, p2, q2, h2, ⟨_, h, _⟩ | ⟨_, hp, h, _⟩ | ⟨hh, rfl, _, rfl⟩⟩
  · exact absurd rfl h
  · omega
  · exact absurd h.symm hp
  · obtain rfl := h2.zero0
    exact ⟨rfl, ird_ne h2 (by cases e : hp b 48; rfl; rw [e] at hh; simp at hh), h1.sz, h2.sz⟩

set_option maxRecDepth 100000 in
set_option maxHeartbeats 8000000 in
theorem rread_rat (s : ByteArray) (w : World) (ls : s.size ≤ 9223372036854775807) :
    Calls Try.prog 8 #[.string s] w fun e w' => RRm s e w' ∧ Below w.heap.size w w' := by
  have LS := hide ls
  have R0 := Box4.new w (.bool false) (.slice none 0 0) (.bool false) (.slice none 0 0)
  replace R0 := R0.step (below_alloc _ (.cells #[.int .i64 0, .int .i64 0] 30))
  replace R0 := hide R0
  have R1 := BoxS.new (w.alloc (.cells #[.bool false, .slice none 0 0, .bool false, .slice none 0 0] 27)) (.int .i64 0) (.int .i64 0)
  simp only [World.size_alloc] at R1
  replace R1 := hide R1
  have HB := below_alloc w (.cells #[.bool false, .slice none 0 0, .bool false, .slice none 0 0] 27)
  replace HB := HB.trans ((below_alloc _ (.cells #[.int .i64 0, .int .i64 0] 30)).mono (by simp only [World.size_alloc]; omega))
  replace HB := hide HB
  go_enter Try.func8, Try.ntmps8
  go_upto_region 1 with fail
  generalize ((w.alloc (.cells #[.bool false, .slice none 0 0, .bool false, .slice none 0 0] 27)).alloc (.cells #[.int .i64 0, .int .i64 0] 30)) = w0 at *
  by_cases hs : 65536 < s.size
  · have HS := hide hs
    have hR00 := R0.out.cell0
    have hR01 := R0.out.cell1
    have hR02 := R0.out.cell2
    have hR03 := R0.out.cell3
    have fR00 := R0.out.free 0
    have fR01 := R0.out.free 1
    have fR02 := R0.out.free 2
    have fR03 := R0.out.free 3
    have hR10 := R1.out.cell0
    have hR11 := R1.out.cell1
    have fR10 := R1.out.free 0
    have fR11 := R1.out.free 1
    go_wp2
    try rw [Exit.noGoto_ret]
    refine ret_rspot rfl w.heap.size (w.heap.size + 1) _ _ _ _ _ _ rfl rfl ((R0.out.put _ _ _ _).other (by omega) _ _) ((R1.out.other4 (by omega) _ _ _ _).put _ _) rfl ?_
    exact ⟨⟨_, 0, 3, 65536, rfl, ⟨false, none, 0, 0, false, none, 0, 0, rfl, int_zero0 _, int_zero0 _⟩, .inl ⟨HS.out, rfl, rfl, rfl⟩⟩, below_put (below_put4 HB.out (by omega) _ _ _ _) (by omega) _ _⟩
  · have HS : Hid (s.size ≤ 65536) := hide (by omega)
    have C1 := hide (cutB_sizes 47 s)
    have CC := hide (cut_any s 47)
    go_wp2_with fail
    clear hs ls
    refine (CC.out _ (Nat.le_trans HS.out (by decide))).mono ?_
    rintro e u1 ⟨rfl, hb⟩
    replace R0 := hide (R0.out.step (hb))
    replace R1 := hide (R1.out.step (hb))
    replace HB := hide (HB.out.trans ((hb).mono HB.out.size))
    clear hb
    obtain ⟨xa, hxa⟩ : ∃ x, (cutB 47 s).1 = x := ⟨_, rfl⟩
    obtain ⟨xb, hxb⟩ : ∃ x, (cutB 47 s).2.1 = x := ⟨_, rfl⟩
    obtain ⟨xc, hxc⟩ : ∃ x, (cutB 47 s).2.2 = x := ⟨_, rfl⟩
    rw [hxa, hxb, hxc]
    rw [hxa, hxb] at C1
    have XA := hide hxa
    have XB := hide hxb
    have XC := hide hxc
    clear hxa hxb hxc CC
    have LTS : Hid True := hide trivial
    cases xc with
    | false =>
      go_wp2_with fail
      refine (iread_any s _ LS.out).mono ?_
      rintro e u2 ⟨v, z1, p1, q1, rfl, kx1, hr1, hb⟩
      obtain ⟨s1, m1, n1, c1, rfl, ky1⟩ := kx1.cells
      have H1 := hide hr1
      replace R0 := hide (R0.out.step (hb))
      replace R1 := hide (R1.out.step (hb))
      replace HB := hide (HB.out.trans ((hb).mono HB.out.size))
      have I1 := hide (ky1)
      clear hb kx1 ky1 hr1
      go_upto_region 6 with fail
      have hp := R1.out.lt
      have V1 := Box.new u2 (.bool s1) (.slice m1 n1 c1)
      replace V1 := V1.step (below_alloc _ (.cells #[.int .i64 ((p1 : Nat) : Int), .int .i64 ((q1 : Nat) : Int)] 30))
      replace V1 := hide V1
      have V2 := BoxS.new (u2.alloc (.cells #[.bool s1, .slice m1 n1 c1] 25)) (.int .i64 ((p1 : Nat) : Int)) (.int .i64 ((q1 : Nat) : Int))
      simp only [World.size_alloc] at V2
      replace V2 := hide V2
      have al := below_alloc u2 (.cells #[.bool s1, .slice m1 n1 c1] 25)
      replace al := al.trans ((below_alloc _ (.cells #[.int .i64 ((p1 : Nat) : Int), .int .i64 ((q1 : Nat) : Int)] 30)).mono (by simp only [World.size_alloc]; omega))
      replace R0 := hide (R0.out.step (al))
      replace R1 := hide (R1.out.step (al))
      replace HB := hide (HB.out.trans ((al).mono HB.out.size))
      replace I1 := hide (I1.out.below (al))
      clear al
      generalize ((u2.alloc (.cells #[.bool s1, .slice m1 n1 c1] 25)).alloc (.cells #[.int .i64 ((p1 : Nat) : Int), .int .i64 ((q1 : Nat) : Int)] 30)) = u2a at *
      generalize u2.heap.size = g at *
      have LT2 := hide hp
      clear hp LTS
      have LTS := hide LT2.out
      clear LT2
      replace R0 := hide R0.out.drew
      replace R1 := hide R1.out.drew
      refine wp_calm (fun w' => Below w.heap.size w w' ∧ Box w' g (.bool s1) (.slice m1 n1 c1) ∧ BoxS w' (g + 1) (.int .i64 ((p1 : Nat) : Int)) (.int .i64 ((q1 : Nat) : Int)) ∧ IntAt w' (.agg #[.bool s1, .slice m1 n1 c1]) z1) (fun _ => true) 5 #[false, false, false, false, false] (by kernel_rfl) rfl rfl ?_
      have HF := hide (And.intro (HB.out.drew) (And.intro (V1.out.drew) (And.intro (V2.out.drew) (I1.out.drew))))
      generalize u2a.drew = u2ad at *
      refine Calm.take (i := 0) (v := ?_) (a' := ?_) (l' := #[true, false, false, false, false]) (d := some 30) rfl (by kernel_rfl) (by kernel_rfl) (by kernel_rfl) (by kernel_rfl) (fun _ _ _ h => h) HF.out rfl ?_ rfl rfl ?_ ?_
      rotate_left
      · intro w' hF; have f10 := hF.2.1.cell0; have f11 := hF.2.1.cell1; have f20 := hF.2.2.1.cell0; have f21 := hF.2.2.1.cell1; clear hF; go_simp; try rfl
      rotate_left
      · simp only [Act.put]; exact rfl
      refine Calm.take (i := 2) (v := ?_) (a' := ?_) (l' := #[true, false, true, false, false]) (d := some 32) rfl (by kernel_rfl) (by kernel_rfl) (by kernel_rfl) (by kernel_rfl) (fun _ _ _ h => h) HF.out rfl ?_ rfl rfl ?_ ?_
      rotate_left
      · intro w' hF; have f10 := hF.2.1.cell0; have f11 := hF.2.1.cell1; have f20 := hF.2.2.1.cell0; have f21 := hF.2.2.1.cell1; clear hF; go_simp; try rfl
      rotate_left
      · simp only [Act.put]; exact rfl
      refine Calm.one (i := 1) (l' := #[true, true, true, false, false]) (by kernel_rfl) rfl rfl rfl fun K hK => ?_
      go_simp
      refine (whole_any _ z1 _ HF.out.2.2.2).mono ?_
      rintro e u3 ⟨v, rfl, n, hb⟩
      obtain ⟨s9, m9, n9, c9, t9, o9, p9, d9, rfl, n⟩ := n.cells
      replace R0 := hide (R0.out.step (hb))
      replace R1 := hide (R1.out.step (hb))
      have HF' := hide (And.intro (HF.out.1.trans ((hb).mono HF.out.1.size)) (And.intro (HF.out.2.1.step (hb)) (And.intro (HF.out.2.2.1.step (hb)) (HF.out.2.2.2.below (hb)))))
      have TR := hide (n)
      refine hK _ _ (fun _ => HF'.out) ?_
      clear hK K HF hb n
      have HF := hide HF'.out
      clear HF'
      refine Calm.one (i := 3) (l' := #[true, true, true, true, false]) (by kernel_rfl) rfl rfl rfl fun K hK => ?_
      have hc0 := R0.out.cell0
      have hc1 := R0.out.cell1
      have hc2 := R0.out.cell2
      have hc3 := R0.out.cell3
      have hf0 := R0.out.free 0
      have hf1 := R0.out.free 1
      have hf2 := R0.out.free 2
      have hf3 := R0.out.free 3
      go_simp
      have HF' := hide (And.intro (below_put4 HF.out.1 (show w.heap.size ≤ w.heap.size by have hx := LTS.out; omega) (.bool s9) (.slice m9 n9 c9) (.bool t9) (.slice o9 p9 d9)) (And.intro (HF.out.2.1.other4 (C := w.heap.size) (by have hx := LTS.out; omega) (.bool s9) (.slice m9 n9 c9) (.bool t9) (.slice o9 p9 d9)) (And.intro (HF.out.2.2.1.other4 (C := w.heap.size) (by have hx := LTS.out; omega) (.bool s9) (.slice m9 n9 c9) (.bool t9) (.slice o9 p9 d9)) (HF.out.2.2.2.keep (R0.out.keeps (by simp) (by simp) (by simp) (by simp) (.bool s9) (.slice m9 n9 c9) (.bool t9) (.slice o9 p9 d9))))))
      replace R1 := hide (R1.out.other4 (C := w.heap.size) (by have hx := LTS.out; omega) (.bool s9) (.slice m9 n9 c9) (.bool t9) (.slice o9 p9 d9))
      replace TR := hide (TR.out.keep (R0.out.keeps (by simp) (by simp) (by simp) (by simp) (.bool s9) (.slice m9 n9 c9) (.bool t9) (.slice o9 p9 d9)))
      replace R0 := hide (R0.out.put (.bool s9) (.slice m9 n9 c9) (.bool t9) (.slice o9 p9 d9))
      refine hK _ _ (fun _ => HF'.out) ?_
      clear hK K HF hc0 hf0 hc1 hf1 hc2 hf2 hc3 hf3
      have HF := hide HF'.out
      clear HF'
      generalize ((((u3.setCell ⟨w.heap.size, 0, none⟩ (.bool s9)).setCell ⟨w.heap.size, 1, none⟩ (.slice m9 n9 c9)).setCell ⟨w.heap.size, 2, none⟩ (.bool t9)).setCell ⟨w.heap.size, 3, none⟩ (.slice o9 p9 d9)) = y1 at *
      refine Calm.one (i := 4) (l' := #[true, true, true, true, true]) (by kernel_rfl) rfl rfl rfl fun K hK => ?_
      have hc0 := R1.out.cell0
      have hc1 := R1.out.cell1
      have hf0 := R1.out.free 0
      have hf1 := R1.out.free 1
      go_simp
      have HF' := hide (And.intro (below_put HF.out.1 (show w.heap.size ≤ (w.heap.size + 1) by have hx := LTS.out; omega) (.int .i64 ((p1 : Nat) : Int)) (.int .i64 ((q1 : Nat) : Int))) (And.intro (HF.out.2.1.other (C := (w.heap.size + 1)) (by have hx := LTS.out; omega) (.int .i64 ((p1 : Nat) : Int)) (.int .i64 ((q1 : Nat) : Int))) (And.intro (HF.out.2.2.1.other (C := (w.heap.size + 1)) (by have hx := LTS.out; omega) (.int .i64 ((p1 : Nat) : Int)) (.int .i64 ((q1 : Nat) : Int))) (HF.out.2.2.2.keep (R1.out.keeps (by simp) (by simp) (.int .i64 ((p1 : Nat) : Int)) (.int .i64 ((q1 : Nat) : Int)))))))
      replace R0 := hide (R0.out.other (C := (w.heap.size + 1)) (by have hx := LTS.out; omega) (.int .i64 ((p1 : Nat) : Int)) (.int .i64 ((q1 : Nat) : Int)))
      replace TR := hide (TR.out.keep (R1.out.keeps (by simp) (by simp) (.int .i64 ((p1 : Nat) : Int)) (.int .i64 ((q1 : Nat) : Int))))
      replace R1 := hide (R1.out.put (.int .i64 ((p1 : Nat) : Int)) (.int .i64 ((q1 : Nat) : Int)))
      refine hK _ _ (fun _ => HF'.out) ?_
      clear hK K HF hc0 hf0 hc1 hf1
      have HF := hide HF'.out
      clear HF'
      generalize ((y1.setCell ⟨(w.heap.size + 1), 0, none⟩ (.int .i64 ((p1 : Nat) : Int))).setCell ⟨(w.heap.size + 1), 1, none⟩ (.int .i64 ((q1 : Nat) : Int))) = y2 at *
      refine Calm.done (by kernel_rfl) ?_
      replace HB := hide HF.out.1
      replace V1 := hide HF.out.2.1
      replace V2 := hide HF.out.2.2.1
      replace I1 := hide HF.out.2.2.2
      clear HF
      try simp only [List.setIfInBounds_toArray, List.set_cons_succ, List.set_cons_zero]
      go_wp2
      try rw [Exit.noGoto_ret]
      refine ret_rspot rfl w.heap.size (w.heap.size + 1) _ _ _ _ _ _ rfl rfl R0.out R1.out rfl ?_
      exact ⟨⟨_, (z1 : Rat), p1, q1, rfl, TR.out, .inr (.inl ⟨HS.out, XC.out, z1, H1.out, rfl⟩)⟩, HB.out⟩
    | true =>
      go_wp2_with fail
      refine (rterms_any xa xb _ (Nat.le_trans C1.out.1 HS.out) (Nat.le_trans C1.out.2 HS.out)).mono ?_
      rintro e u2 ⟨⟨s1, m1, n1, c1, t1, o1, p1, d1, z1, z2, p, q, rfl, i1, i2, hr⟩, hb⟩
      have H1 := hide hr
      replace R0 := hide (R0.out.step (hb))
      replace R1 := hide (R1.out.step (hb))
      replace HB := hide (HB.out.trans ((hb).mono HB.out.size))
      have I1 := hide i1
      have I2 := hide i2
      clear hb hr i1 i2
      go_upto_region 8 with fail
      have hp := R1.out.lt
      have V1 := BoxA.new u2 (.bool s1) (.slice m1 n1 c1) (.bool t1) (.slice o1 p1 d1)
      replace V1 := V1.step (below_alloc _ (.cells #[.int .i64 ((p : Nat) : Int), .int .i64 ((q : Nat) : Int)] 30))
      replace V1 := hide V1
      have V2 := BoxS.new (u2.alloc (.cells #[.bool s1, .slice m1 n1 c1, .bool t1, .slice o1 p1 d1] 77)) (.int .i64 ((p : Nat) : Int)) (.int .i64 ((q : Nat) : Int))
      simp only [World.size_alloc] at V2
      replace V2 := hide V2
      have al := below_alloc u2 (.cells #[.bool s1, .slice m1 n1 c1, .bool t1, .slice o1 p1 d1] 77)
      replace al := al.trans ((below_alloc _ (.cells #[.int .i64 ((p : Nat) : Int), .int .i64 ((q : Nat) : Int)] 30)).mono (by simp only [World.size_alloc]; omega))
      replace R0 := hide (R0.out.step (al))
      replace R1 := hide (R1.out.step (al))
      replace HB := hide (HB.out.trans ((al).mono HB.out.size))
      replace I1 := hide (I1.out.below (al))
      replace I2 := hide (I2.out.below (al))
      clear al
      generalize ((u2.alloc (.cells #[.bool s1, .slice m1 n1 c1, .bool t1, .slice o1 p1 d1] 77)).alloc (.cells #[.int .i64 ((p : Nat) : Int), .int .i64 ((q : Nat) : Int)] 30)) = u2a at *
      generalize u2.heap.size = g at *
      have LT2 := hide hp
      clear hp LTS
      have LTS := hide LT2.out
      clear LT2
      by_cases hz : p = 0
      rotate_left
      · have hne : ((p : Int) != 0) = true := by simp; omega
        have hV20 := V2.out.cell0
        have hV21 := V2.out.cell1
        have HZ := hide hz
        clear hz
        go_upto_region 9 with fail
        clear hne
        clear hV20 hV21
        replace R0 := hide R0.out.drew
        replace R1 := hide R1.out.drew
        refine wp_calm (fun w' => Below w.heap.size w w' ∧ BoxS w' (g + 1) (.int .i64 ((p : Nat) : Int)) (.int .i64 ((q : Nat) : Int))) (fun _ => true) 4 #[false, false, false, false] (by kernel_rfl) rfl rfl ?_
        have HF := hide (And.intro (HB.out.drew) (V2.out.drew))
        generalize u2a.drew = u2ad at *
        refine Calm.take (i := 0) (v := ?_) (a' := ?_) (l' := #[true, false, false, false]) (d := some 42) rfl (by kernel_rfl) (by kernel_rfl) (by kernel_rfl) (by kernel_rfl) (fun _ _ _ h => h) HF.out rfl ?_ rfl rfl ?_ ?_
        rotate_left
        · intro w' hF; clear hF; go_simp; try rfl
        rotate_left
        · simp only [Act.put]; exact rfl
        refine Calm.take (i := 1) (v := ?_) (a' := ?_) (l' := #[true, true, false, false]) (d := some 43) rfl (by kernel_rfl) (by kernel_rfl) (by kernel_rfl) (by kernel_rfl) (fun _ _ _ h => h) HF.out rfl ?_ rfl rfl ?_ ?_
        rotate_left
        · intro w' hF; have f10 := hF.2.cell0; have f11 := hF.2.cell1; clear hF; go_simp; try rfl
        rotate_left
        · simp only [Act.put]; exact rfl
        refine Calm.one (i := 2) (l' := #[true, true, true, false]) (by kernel_rfl) rfl rfl rfl fun K hK => ?_
        have hc0 := R0.out.cell0
        have hc1 := R0.out.cell1
        have hc2 := R0.out.cell2
        have hc3 := R0.out.cell3
        have hf0 := R0.out.free 0
        have hf1 := R0.out.free 1
        have hf2 := R0.out.free 2
        have hf3 := R0.out.free 3
        go_simp
        have HF' := hide (And.intro (below_put4 HF.out.1 (show w.heap.size ≤ w.heap.size by have hx := LTS.out; omega) (.bool false) (.slice none 0 0) (.bool false) (.slice none 0 0)) (HF.out.2.other4 (C := w.heap.size) (by have hx := LTS.out; omega) (.bool false) (.slice none 0 0) (.bool false) (.slice none 0 0)))
        replace R1 := hide (R1.out.other4 (C := w.heap.size) (by have hx := LTS.out; omega) (.bool false) (.slice none 0 0) (.bool false) (.slice none 0 0))
        replace R0 := hide (R0.out.put (.bool false) (.slice none 0 0) (.bool false) (.slice none 0 0))
        refine hK _ _ (fun _ => HF'.out) ?_
        clear hK K HF hc0 hf0 hc1 hf1 hc2 hf2 hc3 hf3
        have HF := hide HF'.out
        clear HF'
        generalize ((((u2ad.setCell ⟨w.heap.size, 0, none⟩ (.bool false)).setCell ⟨w.heap.size, 1, none⟩ (.slice none 0 0)).setCell ⟨w.heap.size, 2, none⟩ (.bool false)).setCell ⟨w.heap.size, 3, none⟩ (.slice none 0 0)) = y1 at *
        refine Calm.one (i := 3) (l' := #[true, true, true, true]) (by kernel_rfl) rfl rfl rfl fun K hK => ?_
        have hc0 := R1.out.cell0
        have hc1 := R1.out.cell1
        have hf0 := R1.out.free 0
        have hf1 := R1.out.free 1
        go_simp
        have HF' := hide (And.intro (below_put HF.out.1 (show w.heap.size ≤ (w.heap.size + 1) by have hx := LTS.out; omega) (.int .i64 ((p : Nat) : Int)) (.int .i64 ((q : Nat) : Int))) (HF.out.2.other (C := (w.heap.size + 1)) (by have hx := LTS.out; omega) (.int .i64 ((p : Nat) : Int)) (.int .i64 ((q : Nat) : Int))))
        replace R0 := hide (R0.out.other (C := (w.heap.size + 1)) (by have hx := LTS.out; omega) (.int .i64 ((p : Nat) : Int)) (.int .i64 ((q : Nat) : Int)))
        replace R1 := hide (R1.out.put (.int .i64 ((p : Nat) : Int)) (.int .i64 ((q : Nat) : Int)))
        refine hK _ _ (fun _ => HF'.out) ?_
        clear hK K HF hc0 hf0 hc1 hf1
        have HF := hide HF'.out
        clear HF'
        generalize ((y1.setCell ⟨(w.heap.size + 1), 0, none⟩ (.int .i64 ((p : Nat) : Int))).setCell ⟨(w.heap.size + 1), 1, none⟩ (.int .i64 ((q : Nat) : Int))) = y2 at *
        refine Calm.done (by kernel_rfl) ?_
        replace HB := hide HF.out.1
        replace V2 := hide HF.out.2
        clear HF
        clear I1
        clear I2
        clear V1
        try simp only [List.setIfInBounds_toArray, List.set_cons_succ, List.set_cons_zero]
        go_wp2
        try rw [Exit.noGoto_ret]
        refine ret_rspot rfl w.heap.size (w.heap.size + 1) _ _ _ _ _ _ rfl rfl R0.out R1.out rfl ?_
        exact ⟨⟨_, 0, p, q, rfl, ⟨false, none, 0, 0, false, none, 0, 0, rfl, int_zero0 _, int_zero0 _⟩, .inr (.inr ⟨HS.out, XC.out, z1, z2, _, _, (by rw [XA.out, XB.out]; exact H1.out), .inl ⟨HZ.out, rfl, rfl, rfl⟩⟩)⟩, HB.out⟩
      · subst hz
        obtain ⟨rfl, hz2, hs1, hs2⟩ := H1.out.ok
        have HZ := hide hz2
        have S1 := hide hs1
        have S2 := hide hs2
        clear hz2 hs1 hs2
        have hV10 := V1.out.cell0
        have hV11 := V1.out.cell1
        have hV12 := V1.out.cell2
        have hV13 := V1.out.cell3
        have hV20 := V2.out.cell0
        have hV21 := V2.out.cell1
        go_wp2_with fail
        clear hV10 hV11 hV12 hV13
        clear hV20 hV21
        refine (lowest_any _ _ z1 z2 _ I1.out I2.out (SzI.len S1.out (by decide)) (SzI.len S2.out (by decide)) HZ.out).mono ?_
        rintro e u3 ⟨v, rfl, kx, hb⟩
        obtain ⟨s5, m5, n5, c5, t5, o5, p5, d5, rfl, ky⟩ := kx.cells
        replace R0 := hide (R0.out.step (hb))
        replace R1 := hide (R1.out.step (hb))
        replace HB := hide (HB.out.trans ((hb).mono HB.out.size))
        replace I1 := hide (I1.out.below (hb))
        replace I2 := hide (I2.out.below (hb))
        replace V1 := hide (V1.out.step (hb))
        replace V2 := hide (V2.out.step (hb))
        have I5 := hide (ky)
        clear hb kx ky
        go_upto_region 11 with fail
        have al := below_alloc u3 (.cells #[.bool s5, .slice m5 n5 c5, .bool t5, .slice o5 p5 d5] 27)
        replace R0 := hide (R0.out.step (al))
        replace R1 := hide (R1.out.step (al))
        replace HB := hide (HB.out.trans ((al).mono HB.out.size))
        replace I1 := hide (I1.out.below (al))
        replace I2 := hide (I2.out.below (al))
        replace V1 := hide (V1.out.step (al))
        replace V2 := hide (V2.out.step (al))
        replace I5 := hide (I5.out.below (al))
        have V5 := hide (Box4.new u3 (.bool s5) (.slice m5 n5 c5) (.bool t5) (.slice o5 p5 d5))
        clear al
        generalize u3.alloc (.cells #[.bool s5, .slice m5 n5 c5, .bool t5, .slice o5 p5 d5] 27) = u3a at *
        generalize u3.heap.size = g5 at *
        have hV10 := V1.out.cell0
        have hV11 := V1.out.cell1
        have hV12 := V1.out.cell2
        have hV13 := V1.out.cell3
        have hV50 := V5.out.cell0
        have hV51 := V5.out.cell1
        have hV52 := V5.out.cell2
        have hV53 := V5.out.cell3
        go_wp2_with fail
        clear hV10 hV11 hV12 hV13
        clear hV50 hV51 hV52 hV53
        refine (icmp_any _ _ (dn (Rat.divInt z1 z2)) z2 _ I5.out.dn I2.out).mono ?_
        rintro e u4 ⟨he, hb⟩
        replace R0 := hide (R0.out.step (hb))
        replace R1 := hide (R1.out.step (hb))
        replace HB := hide (HB.out.trans ((hb).mono HB.out.size))
        replace I1 := hide (I1.out.below (hb))
        replace I2 := hide (I2.out.below (hb))
        replace V1 := hide (V1.out.step (hb))
        replace V2 := hide (V2.out.step (hb))
        replace I5 := hide (I5.out.below (hb))
        replace V5 := hide (V5.out.step (hb))
        clear hb
        by_cases hd : dn (Rat.divInt z1 z2) = z2
        · have HD := hide hd
          rw [show cmpZ (dn (Rat.divInt z1 z2)) z2 = 0 from by rw [hd]; unfold cmpZ; rw [if_neg (by omega), if_pos rfl]] at he
          subst he
          clear hd
          have hV50 := V5.out.cell0
          have hV51 := V5.out.cell1
          have hV52 := V5.out.cell2
          have hV53 := V5.out.cell3
          have hR00 := R0.out.cell0
          have hR01 := R0.out.cell1
          have hR02 := R0.out.cell2
          have hR03 := R0.out.cell3
          have fR00 := R0.out.free 0
          have fR01 := R0.out.free 1
          have fR02 := R0.out.free 2
          have fR03 := R0.out.free 3
          have hR10 := R1.out.cell0
          have hR11 := R1.out.cell1
          have fR10 := R1.out.free 0
          have fR11 := R1.out.free 1
          go_wp2
          try rw [Exit.noGoto_ret]
          refine ret_rspot rfl w.heap.size (w.heap.size + 1) _ _ _ _ _ _ rfl rfl ((R0.out.put _ _ _ _).other (by omega) _ _) ((R1.out.other4 (by omega) _ _ _ _).put _ _) rfl ?_
          exact ⟨⟨_, (Rat.divInt z1 z2), 0, 0, rfl, ((I5.out.keep (R0.out.keeps (by simp) (by simp) (by simp) (by simp) _ _ _ _)).keep ((R1.out.other4 (by omega) _ _ _ _).keeps (by simp) (by simp) _ _)), .inr (.inr ⟨HS.out, XC.out, z1, z2, _, _, (by rw [XA.out, XB.out]; exact H1.out), .inr (.inr ⟨rfl, HZ.out, HD.out, rfl, rfl, rfl⟩)⟩)⟩, below_put (below_put4 HB.out (by omega) _ _ _ _) (by omega) _ _⟩
        · have HD := hide hd
          have hne : (cmpZ (dn (Rat.divInt z1 z2)) z2 != 0) = true := cmpZ_nz hd
          generalize cmpZ (dn (Rat.divInt z1 z2)) z2 = k at *
          subst he
          clear hd
          have hR00 := R0.out.cell0
          have hR01 := R0.out.cell1
          have hR02 := R0.out.cell2
          have hR03 := R0.out.cell3
          have fR00 := R0.out.free 0
          have fR01 := R0.out.free 1
          have fR02 := R0.out.free 2
          have fR03 := R0.out.free 3
          have hR10 := R1.out.cell0
          have hR11 := R1.out.cell1
          have fR10 := R1.out.free 0
          have fR11 := R1.out.free 1
          have hs := HS.out
          go_wp2
          try rw [Exit.noGoto_ret]
          refine ret_rspot rfl w.heap.size (w.heap.size + 1) _ _ _ _ _ _ rfl rfl ((R0.out.put _ _ _ _).other (by omega) _ _) ((R1.out.other4 (by omega) _ _ _ _).put _ _) rfl ?_
          exact ⟨⟨_, 0, 6, s.size, rfl, ⟨false, none, 0, 0, false, none, 0, 0, rfl, int_zero0 _, int_zero0 _⟩, .inr (.inr ⟨HS.out, XC.out, z1, z2, _, _, (by rw [XA.out, XB.out]; exact H1.out), .inr (.inl ⟨rfl, HZ.out, HD.out, rfl, rfl, rfl⟩)⟩)⟩, below_put (below_put4 HB.out (by omega) _ _ _ _) (by omega) _ _⟩
end Go.Proofs.Ytgkibmigbjjnnaa

namespace Go.Proofs.Ytgkibmigbjjnnaa
open Go.RowKit

theorem itxt_no47 (z : Int) : (47 : UInt8) ∉ bl (itxt z) := by
  intro h
  have hb : bl (itxt z) = ((if z < 0 then [45] else []) ++ byts (dec z.natAbs) : List Int).map (fun n : Int => UInt8.ofNat n.toNat) := rfl
  rw [hb] at h
  obtain ⟨n, hn, e⟩ := List.mem_map.1 h
  have key : n = 45 ∨ ∃ d : Nat, d ≤ 9 ∧ n = 48 + (d : Int) := by
    rcases List.mem_append.1 hn with h | h
    · split at h
      · exact .inl (by simpa using h)
      · cases h
    · unfold byts at h
      obtain ⟨d, hd, rfl⟩ := List.mem_map.1 h
      exact .inr ⟨d, digs_le _ _ d hd, rfl⟩
  rcases key with rfl | ⟨d, hd, rfl⟩
  · exact absurd e (by decide)
  · have : ∀ d : Fin 10, UInt8.ofNat (48 + ((d : Nat) : Int)).toNat ≠ 47 := by decide
    exact this ⟨d, by omega⟩ e
theorem bl_injR {s t : ByteArray} (h : bl s = bl t) : s = t := by rw [← mkB_bl s, h, mkB_bl]
theorem bl_app (s t : ByteArray) : bl (s ++ t) = bl s ++ bl t := by simp [bl]
theorem cutB_no {c : UInt8} {s : ByteArray} (h : (cutB c s).2.2 = false) : c ∉ bl s := by
  unfold cutB at h
  rcases idx_cases (bl s) c with ⟨_, h1⟩ | ⟨o, e, _⟩
  · exact h1
  · rw [if_neg (by omega)] at h; cases h
theorem cutB_join {c : UInt8} {s : ByteArray} (h : (cutB c s).2.2 = true) : bl s = bl (cutB c s).1 ++ c :: bl (cutB c s).2.1 ∧ c ∉ bl (cutB c s).1 := by
  rcases idx_cases (bl s) c with ⟨e, _⟩ | ⟨o, e, hl, hs, hn⟩
  · unfold cutB at h; rw [if_pos (by rw [e]; decide)] at h; cases h
  · have ec : cutB c s = (s.extract 0 o, s.extract (o + 1) s.size, true) := by unfold cutB; rw [if_neg (by omega), e]; rfl
    rw [ec]
    have e1 : bl (s.extract 0 o) = (bl s).take o := by rw [bl_ext]; rfl
    have e2 : bl (s.extract (o + 1) s.size) = (bl s).drop (o + 1) := by rw [bl_ext, ← bl_len, List.take_length]
    show bl s = bl (s.extract 0 o) ++ c :: bl (s.extract (o + 1) s.size) ∧ c ∉ bl (s.extract 0 o)
    rw [e1, e2]
    exact ⟨hs, hn⟩
theorem list_cut {c : UInt8} : ∀ {l1 l2 r1 r2 : List UInt8}, c ∉ l1 → c ∉ l2 → l1 ++ c :: r1 = l2 ++ c :: r2 → l1 = l2 ∧ r1 = r2
  | [], [], _, _, _, _, h => by simpa using h
  | [], y :: l2, _, _, _, h2, h => by simp only [List.nil_append, List.cons_append, List.cons.injEq] at h; exact absurd (by rw [h.1]; simp) h2
  | x :: l1, [], _, _, h1, _, h => by simp only [List.nil_append, List.cons_append, List.cons.injEq] at h; exact absurd (by rw [h.1]; simp) h1
  | x :: l1, y :: l2, r1, r2, h1, h2, h => by
    simp only [List.cons_append, List.cons.injEq] at h
    obtain ⟨rfl, h⟩ := h
    obtain ⟨e1, e2⟩ := list_cut (fun m => h1 (by simp [m])) (fun m => h2 (by simp [m])) h
    exact ⟨by rw [e1], e2⟩
theorem cutB_at {c : UInt8} {x y : ByteArray} (h : c ∉ bl x) : (cutB c (x ++ ⟨#[c]⟩ ++ y)).1 = x ∧ (cutB c (x ++ ⟨#[c]⟩ ++ y)).2.1 = y ∧ (cutB c (x ++ ⟨#[c]⟩ ++ y)).2.2 = true := by
  have hb : bl (x ++ ⟨#[c]⟩ ++ y) = bl x ++ c :: bl y := by rw [bl_app, bl_app]; simp [bl]
  cases e : (cutB c (x ++ ⟨#[c]⟩ ++ y)).2.2 with
  | false => exact absurd (by rw [hb]; simp) (cutB_no e)
  | true =>
    obtain ⟨h1, h2⟩ := cutB_join e
    rw [hb] at h1
    obtain ⟨e1, e2⟩ := list_cut h h2 h1
    exact ⟨(bl_injR e1).symm, (bl_injR e2).symm, rfl⟩
theorem cutB_none {c : UInt8} {s : ByteArray} (h : c ∉ bl s) : (cutB c s).2.2 = false := by
  cases e : (cutB c s).2.2 with
  | false => rfl
  | true => exact absurd (by rw [(cutB_join e).1]; simp) h
theorem RT.both {a b : ByteArray} {z1 z2 : Int} {q : Nat} (h : RT a b z1 z2 0 q) : IRd a z1 0 0 ∧ IRd b z2 0 0 := by
  rcases h with ⟨_, h⟩ | ⟨h1, p2, q2, h2, ⟨_, h, _⟩ | ⟨_, hp, h, _⟩ | ⟨hh, rfl, _, rfl⟩⟩
  · exact absurd rfl h
  · omega
  · exact absurd h.symm hp
  · obtain rfl := h2.zero0
    exact ⟨h1, h2⟩
theorem divInt_dn {z1 z2 : Int} (h0 : z2 ≠ 0) (h : dn (Rat.divInt z1 z2) = z2) : (Rat.divInt z1 z2).num = z1 ∧ ((Rat.divInt z1 z2).den : Int) = z2 ∧ (Rat.divInt z1 z2).den ≠ 1 := by
  have hd : (Rat.divInt z1 z2).den ≠ 1 := by
    intro e
    unfold dn at h; rw [if_pos e] at h
    exact h0 h.symm
  have h2 : ((Rat.divInt z1 z2).den : Int) = z2 := by unfold dn at h; rwa [if_neg hd] at h
  have h1 := divInt_cross (n := z1) (d := z2) h0
  rw [h2] at h1
  exact ⟨Int.eq_of_mul_eq_mul_right h0 h1, h2, hd⟩
theorem rrd_told {s : ByteArray} {q : Rat} {b : Nat} (h : RRd s q 0 b) : rtxt q = s ∧ b = 0 := by
  rcases h with ⟨_, _, h, _⟩ | ⟨_, _, z, h, rfl⟩ | ⟨_, hc, z1, z2, p', b', hr, ⟨h, _, h', _⟩ | ⟨_, _, _, _, h, _⟩ | ⟨rfl, h0, hd, rfl, _, rfl⟩⟩
  · omega
  · obtain ⟨h1, _, h2⟩ := h.told
    refine ⟨?_, h2⟩
    unfold rtxt
    rw [if_pos (by rfl)]
    exact h1
  · exact absurd h'.symm h
  · omega
  · obtain ⟨h1, h2⟩ := hr.both
    obtain ⟨e1, e2, e3⟩ := divInt_dn h0 hd
    refine ⟨?_, rfl⟩
    unfold rtxt
    rw [if_neg e3, e1, e2, h1.told.1, h2.told.1]
    obtain ⟨hj, _⟩ := cutB_join hc
    apply bl_injR
    rw [hj, bl_app, bl_app]
    simp [bl]
theorem itxt_first {d : Int} (h : 0 < d) : (hp (itxt d) 45 || hp (itxt d) 48) = false := by
  have hz : ¬ d < 0 := by omega
  have e : itxt d = txt d.natAbs := by unfold itxt txt; rw [if_neg hz]; rfl
  obtain ⟨k, h0, h9, hn⟩ := dec_lead d.natAbs
  have hb0 := bt_byts _ _ _ h0 h9
  have hb : bt (itxt d) 0 = 48 + k := by rw [e]; exact hb0
  rw [Bool.or_eq_false_iff]
  constructor
  · cases hh : hp (itxt d) 45 with
    | false => rfl
    | true => have := (hp_yes hh).2; rw [hb] at this; change 48 + k = 45 at this; omega
  · cases hh : hp (itxt d) 48 with
    | false => rfl
    | true =>
      have := (hp_yes hh).2; rw [hb] at this; change 48 + k = 48 at this
      have hk : k = 0 := by omega
      subst hk
      have hnd : nd d.natAbs = 0 := by
        rcases Nat.eq_zero_or_pos (nd d.natAbs) with h | h
        · exact h
        · exact absurd rfl (hn h)
      have h3 := ev_dec d.natAbs
      unfold dec at h3 h0
      rw [hnd] at h3 h0
      simp [digs, ev] at h3 h0
      omega
theorem rrd_back {q q' : Rat} {p b : Nat} (hs : (rtxt q).size ≤ 65536) (h : RRd (rtxt q) q' p b) : q' = q ∧ p = 0 ∧ b = 0 := by
  by_cases hd : q.den = 1
  · have e : rtxt q = itxt q.num := by unfold rtxt; rw [if_pos hd]
    rw [e] at h hs
    rcases h with ⟨h, _⟩ | ⟨_, _, z, h, rfl⟩ | ⟨_, hc, _⟩
    · omega
    · obtain ⟨rfl, rfl, rfl⟩ := h.same (ird_told _ hs)
      exact ⟨rat_whole hd, rfl, rfl⟩
    · rw [cutB_none (itxt_no47 _)] at hc; cases hc
  · have e : rtxt q = itxt q.num ++ ⟨#[47]⟩ ++ itxt (q.den : Int) := by unfold rtxt; rw [if_neg hd]
    obtain ⟨c1, c2, c3⟩ := cutB_at (x := itxt q.num) (y := itxt (q.den : Int)) (itxt_no47 q.num)
    have hz : (itxt q.num).size ≤ 65536 ∧ (itxt (q.den : Int)).size ≤ 65536 := by rw [e, ByteArray.size_append, ByteArray.size_append] at hs; omega
    have hden : (0 : Int) < q.den := by have := q.den_nz; omega
    rw [e] at h hs
    rcases h with ⟨h, _⟩ | ⟨_, hc, _⟩ | ⟨_, _, z1, z2, p', b', hr, h⟩
    · omega
    · rw [c3] at hc; cases hc
    · rw [c1, c2] at hr
      have key : z1 = q.num ∧ z2 = (q.den : Int) ∧ p' = 0 := by
        rcases hr with ⟨h1, h2⟩ | ⟨h1, p2, q2, h2, h3⟩
        · exact absurd (h1.same (ird_told _ hz.1)).2.1 h2
        · obtain ⟨e1, _, _⟩ := h1.same (ird_told _ hz.1)
          obtain ⟨e2, e3, _⟩ := h2.same (ird_told _ hz.2)
          refine ⟨e1, e2, ?_⟩
          rw [itxt_first hden] at h3
          rcases h3 with ⟨h3, _⟩ | ⟨_, h3, _⟩ | ⟨_, _, h3, _⟩
          · cases h3
          · exact absurd e3 h3
          · exact h3
      obtain ⟨rfl, rfl, rfl⟩ := key
      have hq : Rat.divInt q.num (q.den : Int) = q := Rat.num_divInt_den q
      rw [hq] at h
      rcases h with ⟨h, _⟩ | ⟨_, _, h, _⟩ | ⟨_, _, _, h1, h2, h3⟩
      · exact absurd rfl h
      · exact absurd (by unfold dn; rw [if_neg hd]) h
      · exact ⟨h1, h2, h3⟩
end Go.Proofs.Ytgkibmigbjjnnaa

namespace Go.Proofs.Ytgkibmigbjjnnaa
open Go.RowKit

theorem bt_extr (s : ByteArray) (a b i : Nat) (hb : b ≤ s.size) (h : a + i < b) : bt (s.extract a b) i = bt s (a + i) := by
  have h1 : i < (s.extract a b).size := by rw [ByteArray.size_extract]; omega
  have h2 : a + i < s.size := by omega
  unfold bt
  rw [dif_pos h1, dif_pos h2]
  congr 1
  simp [ByteArray.getElem_extract]
theorem ext_size (s : ByteArray) (a b : Nat) (hb : b ≤ s.size) : (s.extract a b).size = b - a := by rw [ByteArray.size_extract]; omega
theorem bt_bl (s : ByteArray) (i : Nat) (h : i < s.size) : ∃ c : UInt8, (bl s)[i]? = some c ∧ bt s i = c.toNat := by
  refine ⟨s[i], ?_, ?_⟩
  · rw [List.getElem?_eq_getElem (by rw [bl_len]; exact h)]; rfl
  · rw [bt_get]
theorem no47_of {s : ByteArray} (h : ∀ i, i < s.size → bt s i ≠ 47) : (47 : UInt8) ∉ bl s := by
  intro m
  obtain ⟨i, hi, e⟩ := List.getElem_of_mem m
  have hi' : i < s.size := by rw [← bl_len]; exact hi
  obtain ⟨c, h1, h2⟩ := bt_bl s i hi'
  rw [List.getElem?_eq_getElem hi] at h1
  simp only [Option.some.injEq] at h1
  rw [← h1, e] at h2
  exact h i hi' (by rw [h2]; decide)
theorem cut_split (s : ByteArray) (e : Nat) (he : e < s.size) (h47 : bt s e = 47) : s = s.extract 0 e ++ ⟨#[47]⟩ ++ s.extract (e + 1) s.size := by
  apply bl_injR
  obtain ⟨c, h1, h2⟩ := bt_bl s e he
  have hc : c = 47 := by rw [h47] at h2; exact UInt8.toNat_inj.1 h2.symm
  subst hc
  rw [bl_app, bl_app, bl_ext, bl_ext]
  have h3 : (bl s).take s.size = bl s := by rw [← bl_len, List.take_length]
  rw [h3, List.drop_zero]
  have h4 : (bl s).drop e = 47 :: (bl s).drop (e + 1) := by
    have hl : e < (bl s).length := by rw [bl_len]; exact he
    rw [List.drop_eq_getElem_cons hl]
    rw [List.getElem?_eq_getElem hl] at h1
    simp only [Option.some.injEq] at h1
    rw [h1]
  have h5 := (List.take_append_drop e (bl s)).symm
  rw [h4] at h5
  have h6 : bl (⟨#[47]⟩ : ByteArray) = [47] := rfl
  rw [h6, List.append_assoc]
  exact h5
/-- where the first stroke stands -/
theorem cut_place {s : ByteArray} (h : (cutB 47 s).2.2 = true) : (cutB 47 s).1.size < s.size ∧ bt s (cutB 47 s).1.size = 47 ∧ (∀ i, i < (cutB 47 s).1.size → bt (cutB 47 s).1 i = bt s i ∧ bt s i ≠ 47) := by
  obtain ⟨hj, hn⟩ := cutB_join h
  generalize (cutB 47 s).1 = a at *
  have hl := congrArg List.length hj
  simp only [List.length_append, List.length_cons, bl_len] at hl
  refine ⟨by omega, ?_, ?_⟩
  · obtain ⟨c, h1, h2⟩ := bt_bl s a.size (by omega)
    rw [hj, List.getElem?_append_right (by rw [bl_len]; exact Nat.le_refl _), bl_len, Nat.sub_self] at h1
    simp only [List.getElem?_cons_zero, Option.some.injEq] at h1
    rw [h2, ← h1]; decide
  · intro i hi
    obtain ⟨c, h1, h2⟩ := bt_bl s i (by omega)
    obtain ⟨c', h1', h2'⟩ := bt_bl a i hi
    rw [hj, List.getElem?_append_left (by rw [bl_len]; exact hi), h1'] at h1
    simp only [Option.some.injEq] at h1
    subst h1
    refine ⟨by rw [h2, h2'], fun h47 => hn ?_⟩
    have : c' = 47 := by rw [h2] at h47; exact UInt8.toNat_inj.1 h47
    subst this
    exact List.mem_of_getElem? h1'
/-- the place where the digits begin -/
def atP (s : ByteArray) : Nat := if hp s 45 then 1 else 0
theorem cutP_at (s : ByteArray) : (cutP s 45).size = s.size - atP s ∧ (∀ i, bt (cutP s 45) i = bt s (atP s + i)) ∧ atP s ≤ s.size := by
  unfold cutP atP
  cases h : hp s 45 with
  | false => exact ⟨by simp, fun i => by simp, Nat.zero_le _⟩
  | true =>
    have := (hp_yes h).1
    refine ⟨by simp [rest1_size], fun i => ?_, by simp; omega⟩
    simp only [if_true]
    rw [bt_rest, Nat.add_comm]
/-- so many digits stand there -/
def Stop (d : ByteArray) (k : Nat) : Prop := k ≤ d.size ∧ Good d k ∧ (k < d.size → ¬ Fine d k)
theorem hp_of {s : ByteArray} {c : UInt8} (h0 : 0 < s.size) (h : bt s 0 = c.toNat) : hp s c = true := by simp [hp, h0, h]
theorem hp_not {s : ByteArray} {c : UInt8} (h : ¬ (0 < s.size ∧ bt s 0 = c.toNat)) : hp s c = false := by unfold hp; exact decide_eq_false h
/-- a beginning of a text begins as it does -/
theorem hp_pre {s a : ByteArray} (h0 : 0 < a.size) (hl : a.size ≤ s.size) (hb : bt a 0 = bt s 0) (c : UInt8) : hp a c = hp s c := by
  unfold hp
  rw [hb]
  congr 1
  exact propext ⟨fun h => ⟨by omega, h.2⟩, fun h => ⟨h0, h.2⟩⟩
theorem fine_same {s a : ByteArray} {n i : Nat} (h0 : bt a 0 = bt s 0) (hi : bt a i = bt s i) (_ : i < n) : Fine a i ↔ Fine s i := by
  constructor
  · rintro ⟨h1, h2, h3⟩; exact ⟨by omega, by omega, fun h => by have := h3 h; omega⟩
  · rintro ⟨h1, h2, h3⟩; exact ⟨by omega, by omega, fun h => by have := h3 h; omega⟩
/-- what a beginning of a text is read as, where a byte in it is wrong -/
theorem pre_bad {s a : ByteArray} {k : Nat} (hl : a.size ≤ s.size) (hs : s.size ≤ 65536) (hb : ∀ i, i < a.size → bt a i = bt s i) (hz : ¬ (hp s 45 = true ∧ hp (rest1 s) 48 = true)) (hg : Good (cutP s 45) k) (hk : atP s + k < a.size) (hf : ¬ Fine (cutP s 45) k) : IRd a 0 6 (atP s + k) := by
  have h0 : 0 < a.size := by omega
  have e45 := hp_pre h0 hl (hb 0 h0) 45
  obtain ⟨z1, z2, z3⟩ := cutP_at s
  obtain ⟨y1, y2, y3⟩ := cutP_at a
  have eat : atP a = atP s := by unfold atP; rw [e45]
  rw [eat] at y1 y2 y3
  have hbt : ∀ i, i ≤ k → bt (cutP a 45) i = bt (cutP s 45) i := fun i hi => by rw [y2, z2]; exact hb _ (by omega)
  have hG : Good (cutP a 45) k := fun j hj => (fine_same (n := k + 1) (hbt 0 (by omega)) (hbt j (by omega)) (by omega)).2 (hg j hj)
  have hF : ¬ Fine (cutP a 45) k := fun h => hf ((fine_same (n := k + 1) (hbt 0 (by omega)) (hbt k (by omega)) (by omega)).1 h)
  refine .inr (.inr ⟨by omega, ?_, [], 6, k, .inr (.inr (.inl ⟨by omega, k, by omega, hG, hF, rfl, rfl, rfl⟩)), .inl ⟨by decide, rfl, rfl, by omega⟩⟩)
  rintro ⟨h1, h2⟩
  refine hz ⟨by rw [← e45]; exact h1, ?_⟩
  obtain ⟨h3, h4⟩ := hp_yes h2
  rw [rest1_size] at h3
  rw [bt_rest] at h4
  exact hp_of (by rw [rest1_size]; omega) (by rw [bt_rest, ← hb _ (by omega)]; exact h4)
theorem pre_none {s a : ByteArray} (hl : a.size ≤ s.size) (hs : s.size ≤ 65536) (hb : ∀ i, i < a.size → bt a i = bt s i) (hk : a.size = atP s) : IRd a 0 6 (atP s) := by
  have key : hp a 45 = hp s 45 := by
    by_cases h0 : 0 < a.size
    · exact hp_pre h0 hl (hb 0 h0) 45
    · have : atP s = 0 := by omega
      have h1 : hp s 45 = false := by
        cases h : hp s 45 with
        | false => rfl
        | true => unfold atP at this; rw [h] at this; exact absurd this (by decide)
      rw [h1]
      exact hp_not (fun h => h0 h.1)
  obtain ⟨y1, y2, y3⟩ := cutP_at a
  have eat : atP a = atP s := by unfold atP; rw [key]
  rw [eat] at y1
  refine .inr (.inr ⟨by omega, ?_, [], 6, 0, .inr (.inl ⟨by omega, rfl, rfl, rfl⟩), .inl ⟨by decide, rfl, rfl, by omega⟩⟩)
  rintro ⟨h1, h2⟩
  have h3 := (hp_yes h2).1
  rw [rest1_size] at h3
  have : atP s ≤ 1 := by unfold atP; split <;> omega
  omega
theorem pre_zero {s a : ByteArray} (hl : a.size ≤ s.size) (hs : s.size ≤ 65536) (hb : ∀ i, i < a.size → bt a i = bt s i) (hz : hp s 45 = true ∧ hp (rest1 s) 48 = true) (hk : 2 ≤ a.size) : IRd a 0 6 1 := by
  refine .inr (.inl ⟨by omega, ?_, ?_, rfl, rfl, rfl⟩)
  · rw [hp_pre (by omega) hl (hb 0 (by omega)) 45]; exact hz.1
  · obtain ⟨h3, h4⟩ := hp_yes hz.2
    rw [bt_rest] at h4
    exact hp_of (by rw [rest1_size]; omega) (by rw [bt_rest, hb _ (by omega)]; exact h4)
/-- a wrong byte ahead of the first stroke -/
theorem rrd_pre {s : ByteArray} {p b : Nat} (hs : s.size ≤ 65536) (hp0 : p ≠ 0) (h : ∀ a : ByteArray, a = s ∨ ((cutB 47 s).2.2 = true ∧ a = (cutB 47 s).1) → IRd a 0 p b) : RRd s 0 p b := by
  cases hc : (cutB 47 s).2.2 with
  | false => exact .inr (.inl ⟨hs, hc, 0, h s (.inl rfl), rfl⟩)
  | true => exact .inr (.inr ⟨hs, hc, 0, 0, p, b, .inl ⟨h _ (.inr ⟨hc, rfl⟩), hp0⟩, .inl ⟨hp0, rfl, rfl, rfl⟩⟩)
theorem pre_of {s a : ByteArray} (h : a = s ∨ ((cutB 47 s).2.2 = true ∧ a = (cutB 47 s).1)) : a.size ≤ s.size ∧ (∀ i, i < a.size → bt a i = bt s i) ∧ (∀ i, a.size ≤ i → i < s.size → (∀ j, j ≤ i → bt s j ≠ 47) → False) := by
  rcases h with rfl | ⟨h, rfl⟩
  · exact ⟨Nat.le_refl _, fun _ _ => rfl, fun i h1 h2 _ => by omega⟩
  · obtain ⟨h1, h2, h3⟩ := cut_place h
    exact ⟨by omega, fun i hi => (h3 i hi).1, fun i h4 h5 h6 => h6 _ h4 h2⟩
/-- no number at the beginning -/
theorem doc_first {s : ByteArray} {k : Nat} (hs : s.size ≤ 65536) (hS : Stop (cutP s 45) k) (h : k = 0 ∨ (hp s 45 = true ∧ hp (rest1 s) 48 = true)) : RRd s 0 6 (atP s) := by
  obtain ⟨z1, z2, z3⟩ := cutP_at s
  refine rrd_pre hs (by decide) fun a ha => ?_
  obtain ⟨h1, h2, h3⟩ := pre_of ha
  by_cases hz : hp s 45 = true ∧ hp (rest1 s) 48 = true
  · have e : atP s = 1 := by unfold atP; rw [hz.1]; rfl
    rw [e]
    refine pre_zero h1 hs h2 hz ?_
    obtain ⟨q1, q2⟩ := hp_yes hz.1
    obtain ⟨q3, q4⟩ := hp_yes hz.2
    rw [rest1_size] at q3
    rw [bt_rest] at q4
    have q2' : bt s 0 = 45 := q2
    have q4' : bt s 1 = 48 := q4
    rcases Nat.lt_or_ge a.size 2 with q | q
    · exact (h3 1 (by omega) (by omega) (fun j hj => by match j, hj with | 0, _ => omega | 1, _ => omega)).elim
    · exact q
  · have hk : k = 0 := h.resolve_right hz
    subst hk
    rcases Nat.lt_or_ge (atP s) a.size with q | q
    · have := pre_bad h1 hs h2 hz (Good.zero _) (k := 0) (by omega) (hS.2.2 (by omega))
      exact this
    · refine pre_none h1 hs h2 ?_
      rcases Nat.lt_or_ge a.size (atP s) with q' | q'
      · have e1 : atP s = 1 := by have : atP s ≤ 1 := by unfold atP; split <;> omega
                                  omega
        have h45 : hp s 45 = true := by
          cases e : hp s 45 with
          | true => rfl
          | false => unfold atP at e1; rw [e] at e1; exact absurd e1 (by decide)
        obtain ⟨q1, q2⟩ := hp_yes h45
        have q2' : bt s 0 = 45 := q2
        exact (h3 0 (by omega) q1 (fun j hj => by obtain rfl : j = 0 := by omega
                                                  omega)).elim
      · omega
theorem good_no47 {s : ByteArray} {k : Nat} (hg : Good (cutP s 45) k) : ∀ j, j < atP s + k → bt s j ≠ 47 := by
  intro j hj h47
  obtain ⟨z1, z2, z3⟩ := cutP_at s
  rcases Nat.lt_or_ge j (atP s) with q | q
  · have e1 : atP s = 1 := by have : atP s ≤ 1 := by unfold atP; split <;> omega
                              omega
    have h45 : hp s 45 = true := by
      cases e : hp s 45 with
      | true => rfl
      | false => unfold atP at e1; rw [e] at e1; exact absurd e1 (by decide)
    have q2 : bt s 0 = 45 := (hp_yes h45).2
    obtain rfl : j = 0 := by omega
    omega
  · have f := hg (j - atP s) (by omega)
    have := f.lo
    rw [z2, show atP s + (j - atP s) = j by omega] at this
    omega
/-- behind the first digits a byte that is no stroke -/
theorem doc_behind {s : ByteArray} {k : Nat} (hs : s.size ≤ 65536) (hS : Stop (cutP s 45) k) (hz : ¬ (hp s 45 = true ∧ hp (rest1 s) 48 = true)) (hk : atP s + k < s.size) (h47 : bt s (atP s + k) ≠ 47) : RRd s 0 6 (atP s + k) := by
  obtain ⟨z1, z2, z3⟩ := cutP_at s
  refine rrd_pre hs (by decide) fun a ha => ?_
  obtain ⟨h1, h2, h3⟩ := pre_of ha
  refine pre_bad h1 hs h2 hz hS.2.1 ?_ (hS.2.2 (by omega))
  rcases Nat.lt_or_ge (atP s + k) a.size with q | q
  · exact q
  · refine (h3 _ q hk fun j hj => ?_).elim
    rcases Nat.lt_or_eq_of_le hj with q' | rfl
    · exact good_no47 hS.2.1 j q'
    · exact h47
/-- a whole text of digits is a number's -/
theorem doc_num {s : ByteArray} (hs : s.size ≤ 65536) (hg : Good (cutP s 45) (cutP s 45).size) (h0 : 0 < (cutP s 45).size) (hz : ¬ (hp s 45 = true ∧ hp (rest1 s) 48 = true)) : ∃ z, IRd s z 0 0 :=
  ⟨_, .inr (.inr ⟨hs, hz, _, 0, 0, .inr (.inr (.inr ⟨Nat.le_trans (cutP_size s 45) hs, h0, hg, rfl, rfl, rfl⟩)), .inr ⟨rfl, rfl, rfl, rfl⟩⟩)⟩
theorem doc_cut {s : ByteArray} {k : Nat} (hg : Good (cutP s 45) k) (hk : atP s + k < s.size) (h47 : bt s (atP s + k) = 47) : (cutB 47 s).1 = s.extract 0 (atP s + k) ∧ (cutB 47 s).2.1 = s.extract (atP s + k + 1) s.size ∧ (cutB 47 s).2.2 = true := by
  have hn : (47 : UInt8) ∉ bl (s.extract 0 (atP s + k)) := by
    refine no47_of fun i hi => ?_
    rw [ext_size _ _ _ (by omega)] at hi
    rw [bt_extr _ _ _ _ (by omega) (by omega), Nat.zero_add]
    exact good_no47 hg i (by omega)
  have := cutB_at (y := s.extract (atP s + k + 1) s.size) hn
  rwa [← cut_split s (atP s + k) hk h47] at this
theorem ird_bad {b : ByteArray} {k : Nat} (hb : b.size ≤ 65536) (hS : Stop b k) (h45 : hp b 45 = false) (h : k < b.size ∨ (k = 0 ∧ b.size = 0)) : IRd b 0 6 k := by
  have e : cutP b 45 = b := by unfold cutP; rw [h45]; rfl
  refine .inr (.inr ⟨hb, (by rw [h45]; exact fun h => absurd h.1 (by decide)), [], 6, k, ?_, .inl ⟨by decide, rfl, rfl, by rw [e]; omega⟩⟩)
  rw [e]
  rcases h with h | ⟨rfl, h⟩
  · exact .inr (.inr (.inl ⟨hb, k, h, hS.2.1, hS.2.2 h, rfl, rfl, rfl⟩))
  · exact .inr (.inl ⟨h, rfl, rfl, rfl⟩)
theorem stop_ex (d : ByteArray) : ∃ k, Stop d k := by
  have key : ∀ n, n ≤ d.size → (∃ k, Stop d k) ∨ Good d n := by
    intro n
    induction n with
    | zero => exact fun _ => .inr (Good.zero _)
    | succ n ih =>
      intro hn
      rcases ih (by omega) with h | h
      · exact .inl h
      · by_cases hf : Fine d n
        · exact .inr (h.succ hf)
        · exact .inl ⟨n, by omega, h, fun _ => hf⟩
  rcases key d.size (Nat.le_refl _) with h | h
  · exact h
  · exact ⟨d.size, Nat.le_refl _, h, fun h => absurd h (Nat.lt_irrefl _)⟩
theorem ird_ex (b : ByteArray) (hb : b.size ≤ 65536) : ∃ z p q, IRd b z p q := by
  by_cases hz : hp b 45 = true ∧ hp (rest1 b) 48 = true
  · exact ⟨0, 6, 1, .inr (.inl ⟨hb, hz.1, hz.2, rfl, rfl, rfl⟩)⟩
  · obtain ⟨k, h1, h2, h3⟩ := stop_ex (cutP b 45)
    have hc := cutP_size b 45
    by_cases hk : k < (cutP b 45).size
    · exact ⟨0, 6, _, .inr (.inr ⟨hb, hz, [], 6, k, .inr (.inr (.inl ⟨by omega, k, hk, h2, h3 hk, rfl, rfl, rfl⟩)), .inl ⟨by decide, rfl, rfl, rfl⟩⟩)⟩
    · obtain rfl : k = (cutP b 45).size := by omega
      by_cases h0 : (cutP b 45).size = 0
      · exact ⟨0, 6, _, .inr (.inr ⟨hb, hz, [], 6, 0, .inr (.inl ⟨h0, rfl, rfl, rfl⟩), .inl ⟨by decide, rfl, rfl, rfl⟩⟩)⟩
      · obtain ⟨z, h⟩ := doc_num hb h2 (by omega) hz
        exact ⟨z, 0, 0, h⟩
/-- the denominator is wrong: at its beginning, or behind -/
theorem doc_below {s : ByteArray} {k j : Nat} {z1 : Int} (hs : s.size ≤ 65536) (hg : Good (cutP s 45) k) (hk : atP s + k < s.size) (h47 : bt s (atP s + k) = 47) (h1 : IRd (s.extract 0 (atP s + k)) z1 0 0)
    (hS : Stop (s.extract (atP s + k + 1) s.size) j) (h : (j = 0) ∨ (0 < (s.extract (atP s + k + 1) s.size).size ∧ bt (s.extract (atP s + k + 1) s.size) 0 = 48)) : RRd s 0 6 (atP s + k + 1) := by
  obtain ⟨e1, e2, e3⟩ := doc_cut hg hk h47
  have hl : (s.extract 0 (atP s + k)).size = atP s + k := by rw [ext_size _ _ _ (by omega)]; omega
  have hbs : (s.extract (atP s + k + 1) s.size).size ≤ 65536 := by rw [ext_size _ _ _ (Nat.le_refl _)]; omega
  have key : ∃ z2 p2 q2, IRd (s.extract (atP s + k + 1) s.size) z2 p2 q2 ∧ (((hp (s.extract (atP s + k + 1) s.size) 45 || hp (s.extract (atP s + k + 1) s.size) 48) = true) ∨ ((hp (s.extract (atP s + k + 1) s.size) 45 || hp (s.extract (atP s + k + 1) s.size) 48) = false ∧ p2 = 6 ∧ q2 = 0)) := by
    generalize s.extract (atP s + k + 1) s.size = b at *
    cases hh : (hp b 45 || hp b 48) with
    | false =>
      have h45 := (Bool.or_eq_false_iff.1 hh).1
      have h48 := (Bool.or_eq_false_iff.1 hh).2
      have hj : j = 0 := h.resolve_right fun q => hp_no h48 q.1 q.2
      subst hj
      refine ⟨0, 6, 0, ird_bad hbs hS h45 ?_, .inr ⟨rfl, rfl, rfl⟩⟩
      rcases Nat.eq_zero_or_pos b.size with q | q
      · exact .inr ⟨rfl, q⟩
      · exact .inl q
    | true =>
      obtain ⟨z, p, q, h⟩ := ird_ex b hbs
      exact ⟨z, p, q, h, .inl rfl⟩
  obtain ⟨z2, p2, q2, h2, h3⟩ := key
  refine .inr (.inr ⟨hs, e3, z1, z2, 6, atP s + k + 1, ?_, .inl ⟨by decide, rfl, rfl, rfl⟩⟩)
  rw [e1, e2]
  refine .inr ⟨h1, p2, q2, h2, ?_⟩
  rcases h3 with h3 | ⟨h3, rfl, rfl⟩
  · exact .inl ⟨h3, rfl, by rw [hl]⟩
  · exact .inr (.inl ⟨h3, by decide, rfl, by rw [hl]; omega⟩)
theorem doc_more {s : ByteArray} {k j : Nat} {z1 : Int} (hs : s.size ≤ 65536) (hg : Good (cutP s 45) k) (hk : atP s + k < s.size) (h47 : bt s (atP s + k) = 47) (h1 : IRd (s.extract 0 (atP s + k)) z1 0 0)
    (hS : Stop (s.extract (atP s + k + 1) s.size) j) (hj : 0 < j) (h48 : bt (s.extract (atP s + k + 1) s.size) 0 ≠ 48) (hlt : j < (s.extract (atP s + k + 1) s.size).size) : RRd s 0 6 (atP s + k + 1 + j) := by
  obtain ⟨e1, e2, e3⟩ := doc_cut hg hk h47
  have hl : (s.extract 0 (atP s + k)).size = atP s + k := by rw [ext_size _ _ _ (by omega)]; omega
  have hbs : (s.extract (atP s + k + 1) s.size).size ≤ 65536 := by rw [ext_size _ _ _ (Nat.le_refl _)]; omega
  refine .inr (.inr ⟨hs, e3, z1, 0, 6, atP s + k + 1 + j, ?_, .inl ⟨by decide, rfl, rfl, rfl⟩⟩)
  rw [e1, e2]
  generalize s.extract (atP s + k + 1) s.size = b at *
  have f0 := hS.2.1 0 hj
  have h45 : hp b 45 = false := hp_not fun h => by have := f0.lo; have h' : bt b 0 = 45 := h.2; omega
  have h48' : hp b 48 = false := hp_not fun h => h48 h.2
  exact .inr ⟨h1, 6, j, ird_bad hbs hS h45 (.inl hlt), .inr (.inl ⟨by rw [h45, h48']; rfl, by decide, rfl, by rw [hl]; omega⟩)⟩
/-- both are numbers -/
theorem doc_den {b : ByteArray} {j : Nat} (hbs : b.size ≤ 65536) (hS : Stop b j) (hj : 0 < j) (h48 : bt b 0 ≠ 48) (he : j = b.size) : hp b 45 = false ∧ hp b 48 = false ∧ ∃ z, IRd b z 0 0 := by
  subst he
  have f0 := hS.2.1 0 hj
  have h45 : hp b 45 = false := hp_not fun h => by have := f0.lo; have h' : bt b 0 = 45 := h.2; omega
  have h48' : hp b 48 = false := hp_not fun h => h48 h.2
  have e : cutP b 45 = b := by unfold cutP; rw [h45]; rfl
  refine ⟨h45, h48', doc_num hbs ?_ ?_ (by rw [h45]; exact fun h => absurd h.1 (by decide))⟩
  · rw [e]; exact hS.2.1
  · rw [e]; exact hj
theorem doc_ends {s : ByteArray} {k j : Nat} {z1 z2 : Int} (hs : s.size ≤ 65536) (hg : Good (cutP s 45) k) (hk : atP s + k < s.size) (h47 : bt s (atP s + k) = 47) (h1 : IRd (s.extract 0 (atP s + k)) z1 0 0)
    (hS : Stop (s.extract (atP s + k + 1) s.size) j) (hj : 0 < j) (h48 : bt (s.extract (atP s + k + 1) s.size) 0 ≠ 48) (he : j = (s.extract (atP s + k + 1) s.size).size) (h2 : IRd (s.extract (atP s + k + 1) s.size) z2 0 0) :
    z2 ≠ 0 ∧ (rtxt (Rat.divInt z1 z2) ≠ s → RRd s 0 6 s.size) ∧ (rtxt (Rat.divInt z1 z2) = s → RRd s (Rat.divInt z1 z2) 0 0) := by
  obtain ⟨e1, e2, e3⟩ := doc_cut hg hk h47
  have hbs : (s.extract (atP s + k + 1) s.size).size ≤ 65536 := by rw [ext_size _ _ _ (Nat.le_refl _)]; omega
  obtain ⟨h45, h48', _⟩ := doc_den hbs hS hj h48 he
  have hz : z2 ≠ 0 := ird_ne h2 h48'
  have hr : RT (cutB 47 s).1 (cutB 47 s).2.1 z1 z2 0 0 := by
    rw [e1, e2]
    exact .inr ⟨h1, 0, 0, h2, .inr (.inr ⟨by rw [h45, h48']; rfl, rfl, rfl, rfl⟩)⟩
  refine ⟨hz, fun hne => ?_, fun he => ?_⟩
  · by_cases hd : dn (Rat.divInt z1 z2) = z2
    · exact absurd (rrd_told (s := s) (b := 0) (.inr (.inr ⟨hs, e3, z1, z2, 0, 0, hr, .inr (.inr ⟨rfl, hz, hd, rfl, rfl, rfl⟩)⟩))).1 hne
    · exact .inr (.inr ⟨hs, e3, z1, z2, 0, 0, hr, .inr (.inl ⟨rfl, hz, hd, rfl, rfl, rfl⟩)⟩)
  · by_cases hd : dn (Rat.divInt z1 z2) = z2
    · exact .inr (.inr ⟨hs, e3, z1, z2, 0, 0, hr, .inr (.inr ⟨rfl, hz, hd, rfl, rfl, rfl⟩)⟩)
    · have hR : RRd s 0 6 s.size := .inr (.inr ⟨hs, e3, z1, z2, 0, 0, hr, .inr (.inl ⟨rfl, hz, hd, rfl, rfl, rfl⟩)⟩)
      rw [← he] at hR hs
      exact absurd (rrd_back hs hR).2.1 (by decide)
theorem RT.same {a b : ByteArray} {z1 z2 y1 y2 : Int} {p q p' q' : Nat} (h : RT a b z1 z2 p q) (k : RT a b y1 y2 p' q') : p = p' ∧ q = q' ∧ (p = 0 → z1 = y1 ∧ z2 = y2) := by
  rcases h with ⟨h1, h2⟩ | ⟨h1, p2, q2, h2, h3⟩ <;> rcases k with ⟨k1, k2⟩ | ⟨k1, r2, t2, k2, k3⟩
  · obtain ⟨_, rfl, rfl⟩ := h1.same k1
    exact ⟨rfl, rfl, fun h => absurd h h2⟩
  · exact absurd (h1.same k1).2.1 h2
  · exact absurd (k1.same h1).2.1 k2
  · obtain ⟨rfl, _, _⟩ := h1.same k1
    obtain ⟨rfl, rfl, rfl⟩ := h2.same k2
    rcases h3 with ⟨a1, a2, a3⟩ | ⟨a1, a2, a3, a4⟩ | ⟨a1, a2, a3, a4⟩ <;> rcases k3 with ⟨b1, b2, b3⟩ | ⟨b1, b2, b3, b4⟩ | ⟨b1, b2, b3, b4⟩ <;> first | exact ⟨by omega, by omega, fun _ => ⟨rfl, rfl⟩⟩ | exact absurd (a1.symm.trans b1) (by decide)
theorem RRd.same {s : ByteArray} {q q' : Rat} {p b p' b' : Nat} (h : RRd s q p b) (k : RRd s q' p' b') : q = q' ∧ p = p' ∧ b = b' := by
  rcases h with ⟨h1, rfl, rfl, rfl⟩ | ⟨h1, h2, z, h3, rfl⟩ | ⟨h1, h2, z1, z2, r, t, h3, h4⟩ <;> rcases k with ⟨k1, rfl, rfl, rfl⟩ | ⟨k1, k2, y, k3, rfl⟩ | ⟨k1, k2, y1, y2, u, v, k3, k4⟩
  · exact ⟨rfl, rfl, rfl⟩
  · omega
  · omega
  · omega
  · obtain ⟨rfl, rfl, rfl⟩ := h3.same k3; exact ⟨rfl, rfl, rfl⟩
  · rw [h2] at k2; cases k2
  · omega
  · rw [h2] at k2; cases k2
  · obtain ⟨rfl, rfl, hz⟩ := h3.same k3
    rcases h4 with ⟨a1, rfl, rfl, rfl⟩ | ⟨rfl, a2, a3, rfl, rfl, rfl⟩ | ⟨rfl, a2, a3, rfl, rfl, rfl⟩ <;> rcases k4 with ⟨b1, rfl, rfl, rfl⟩ | ⟨b1, b2, b3, rfl, rfl, rfl⟩ | ⟨b1, b2, b3, rfl, rfl, rfl⟩
    · exact ⟨rfl, rfl, rfl⟩
    · exact absurd b1 a1
    · exact absurd b1 a1
    · exact absurd rfl b1
    · exact ⟨rfl, rfl, rfl⟩
    · obtain ⟨rfl, rfl⟩ := hz rfl; exact absurd b3 a3
    · exact absurd rfl b1
    · obtain ⟨rfl, rfl⟩ := hz rfl; exact absurd a3 b3
    · obtain ⟨rfl, rfl⟩ := hz rfl; exact ⟨rfl, rfl, rfl⟩
end Go.Proofs.Ytgkibmigbjjnnaa

namespace Go.Proofs.Ytgkibmigbjjnnaa
open Go.RowKit

/-- a digit that goes on -/
def Dgs (s : ByteArray) (n j : Nat) : Prop := 48 ≤ bt s (n + j) ∧ bt s (n + j) ≤ 57 ∧ (1 ≤ j → bt s n ≠ 48)
/-- so many digits from a place on -/
def StopF (s : ByteArray) (n k : Nat) : Prop := n + k ≤ s.size ∧ (∀ j, j < k → Dgs s n j) ∧ (n + k < s.size → ¬ Dgs s n k)
theorem StopF.stop {s d : ByteArray} {n k : Nat} (h : StopF s n k) (hl : d.size = s.size - n) (hb : ∀ i, n + i < s.size → bt d i = bt s (n + i)) : Stop d k := by
  obtain ⟨h1, h2, h3⟩ := h
  have key : ∀ j, n + j < s.size → (Fine d j ↔ Dgs s n j) := by
    intro j hj
    have e := hb j hj
    have e0 := hb 0 (by omega)
    rw [Nat.add_zero] at e0
    constructor
    · rintro ⟨f1, f2, f3⟩; exact ⟨by omega, by omega, fun h => by have := f3 h; omega⟩
    · rintro ⟨f1, f2, f3⟩; exact ⟨by omega, by omega, fun h => by have := f3 h; omega⟩
  exact ⟨by omega, fun j hj => (key j (by omega)).2 (h2 j hj), fun hk f => h3 (by omega) ((key k (by omega)).1 f)⟩
theorem StopF.cut {s : ByteArray} {k : Nat} (h : StopF s (atP s) k) : Stop (cutP s 45) k := h.stop (cutP_at s).1 (fun i _ => (cutP_at s).2.1 i)
theorem StopF.ext {s : ByteArray} {n k : Nat} (h : StopF s n k) : Stop (s.extract n s.size) k := h.stop (ext_size _ _ _ (Nat.le_refl _)) (fun _ hi => bt_extr _ _ _ _ (Nat.le_refl _) hi)

def DigP (s : ByteArray) (n : Nat) (e : Ending) : Prop := ∃ m k : Nat, e = .returned (.int .i64 (m : Int)) ∧ m = n + k ∧ StopF s n k

end Go.Proofs.Ytgkibmigbjjnnaa
