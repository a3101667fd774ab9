/- What RatioKnown's texts and numbers come to. -/
import Derived.Test.YtgkibmigbjjnnaaRCom
import Derived.Test.YtgkibmigbjjnnaaR3Dig
import Derived.Test.YtgkibmigbjjnnaaRWorks
import Derived.Deep.Cut
namespace Go.Proofs.Ytgkibmigbjjnnaa
open Go.RowKit

def BoxB (W : World) (B : Nat) (x y : Value) : Prop := Box2 W B 48 x y
theorem BoxB.cell0 {W : World} {B : Nat} {x y : Value} (h : BoxB W B x y) : W.cell? ⟨B, 0, none⟩ = some x := Box2.cell0 h
theorem BoxB.cell1 {W : World} {B : Nat} {x y : Value} (h : BoxB W B x y) : W.cell? ⟨B, 1, none⟩ = some y := Box2.cell1 h
theorem BoxB.step {W W' : World} {B : Nat} {x y : Value} (h : BoxB W B x y) (hb : Below W.heap.size W W') : BoxB W' B x y := Box2.step h hb
theorem BoxB.lt {W : World} {B : Nat} {x y : Value} (h : BoxB W B x y) : B < W.heap.size := Box2.lt h
theorem BoxB.new (W : World) (x y : Value) : BoxB (W.alloc (.cells #[x, y] 48)) W.heap.size x y := Box2.new W _ x y
theorem szr1 {q : Rat} (h1 : @decide (SzI 1 q.num) (decSz _ _) = true) (h2 : @decide (SzI 1 (q.den : Int)) (decSz _ _) = true) : SzR 300 q :=
  ⟨(@of_decide_eq_true _ (decSz _ _) h1).mono (by decide), (@of_decide_eq_true _ (decSz _ _) h2).mono (by decide)⟩
@[reducible] def decStopF (s : ByteArray) (n k : Nat) : Decidable (StopF s n k) :=
  inferInstanceAs (Decidable (n + k ≤ s.size ∧ (∀ j, j < k → 48 ≤ bt s (n + j) ∧ bt s (n + j) ≤ 57 ∧ (1 ≤ j → bt s n ≠ 48)) ∧ (n + k < s.size → ¬ (48 ≤ bt s (n + k) ∧ bt s (n + k) ≤ 57 ∧ (1 ≤ k → bt s n ≠ 48)))))
theorem stopF_is {s : ByteArray} {n k : Nat} (h : @decide _ (decStopF s n k) = true) : StopF s n k := @of_decide_eq_true _ (decStopF s n k) h
theorem k_ends {s : ByteArray} (k j : Nat) (z1 z2 : Int) (hs : s.size ≤ 65536) (h1 : StopF s (atP s) k) (hk : atP s + k < s.size) (h47 : bt s (atP s + k) = 47) (e1 : itxt z1 = s.extract 0 (atP s + k)) (h2 : StopF s (atP s + k + 1) j) (hj : 0 < j)
    (h48 : bt (s.extract (atP s + k + 1) s.size) 0 ≠ 48) (he : j = (s.extract (atP s + k + 1) s.size).size) (e2 : itxt z2 = s.extract (atP s + k + 1) s.size) (t : ByteArray) (ht : rtxt (Rat.divInt z1 z2) = t) (hx : t.data.toList ≠ s.data.toList) : RRd s 0 6 s.size := by
  have l1 : (s.extract 0 (atP s + k)).size ≤ 65536 := by rw [ext_size _ _ _ (by omega)]; omega
  have l2 : (s.extract (atP s + k + 1) s.size).size ≤ 65536 := by rw [ext_size _ _ _ (Nat.le_refl _)]; omega
  have i1 : IRd (s.extract 0 (atP s + k)) z1 0 0 := by rw [← e1]; exact ird_told z1 (by rw [e1]; exact l1)
  have i2 : IRd (s.extract (atP s + k + 1) s.size) z2 0 0 := by rw [← e2]; exact ird_told z2 (by rw [e2]; exact l2)
  exact (doc_ends hs h1.cut.2.1 hk h47 i1 h2.ext hj h48 he i2).2.1 (fun e => hx (by rw [← e, ht]))
theorem k_below {s : ByteArray} (k j : Nat) (z1 : Int) (hs : s.size ≤ 65536) (h1 : StopF s (atP s) k) (hk : atP s + k < s.size) (h47 : bt s (atP s + k) = 47) (e1 : itxt z1 = s.extract 0 (atP s + k)) (h2 : StopF s (atP s + k + 1) j)
    (h : (j = 0) ∨ (0 < (s.extract (atP s + k + 1) s.size).size ∧ bt (s.extract (atP s + k + 1) s.size) 0 = 48)) : RRd s 0 6 (atP s + k + 1) := by
  have l1 : (s.extract 0 (atP s + k)).size ≤ 65536 := by rw [ext_size _ _ _ (by omega)]; omega
  have i1 : IRd (s.extract 0 (atP s + k)) z1 0 0 := by rw [← e1]; exact ird_told z1 (by rw [e1]; exact l1)
  exact doc_below hs h1.cut.2.1 hk h47 i1 h2.ext h
theorem k_more {s : ByteArray} (k j : Nat) (z1 : Int) (hs : s.size ≤ 65536) (h1 : StopF s (atP s) k) (hk : atP s + k < s.size) (h47 : bt s (atP s + k) = 47) (e1 : itxt z1 = s.extract 0 (atP s + k)) (h2 : StopF s (atP s + k + 1) j) (hj : 0 < j)
    (h48 : bt (s.extract (atP s + k + 1) s.size) 0 ≠ 48) (hlt : j < (s.extract (atP s + k + 1) s.size).size) : RRd s 0 6 (atP s + k + 1 + j) := by
  have l1 : (s.extract 0 (atP s + k)).size ≤ 65536 := by rw [ext_size _ _ _ (by omega)]; omega
  have i1 : IRd (s.extract 0 (atP s + k)) z1 0 0 := by rw [← e1]; exact ird_told z1 (by rw [e1]; exact l1)
  exact doc_more hs h1.cut.2.1 hk h47 i1 h2.ext hj h48 hlt
theorem bad0 : RRd ⟨#[52, 47, 54]⟩ 0 6 3 := k_ends 1 1 4 6 (of_decide_eq_true (by kernel_rfl)) (stopF_is (by kernel_rfl)) (of_decide_eq_true (by kernel_rfl)) (of_decide_eq_true (by kernel_rfl)) (by kernel_rfl) (stopF_is (by kernel_rfl)) (of_decide_eq_true (by kernel_rfl)) (of_decide_eq_true (by kernel_rfl)) (of_decide_eq_true (by kernel_rfl)) (by kernel_rfl) ⟨#[50, 47, 51]⟩ (by kernel_rfl) (by decide)
theorem bad1 : RRd ⟨#[51, 47, 49]⟩ 0 6 3 := k_ends 1 1 3 1 (of_decide_eq_true (by kernel_rfl)) (stopF_is (by kernel_rfl)) (of_decide_eq_true (by kernel_rfl)) (of_decide_eq_true (by kernel_rfl)) (by kernel_rfl) (stopF_is (by kernel_rfl)) (of_decide_eq_true (by kernel_rfl)) (of_decide_eq_true (by kernel_rfl)) (of_decide_eq_true (by kernel_rfl)) (by kernel_rfl) ⟨#[51]⟩ (by kernel_rfl) (by decide)
theorem bad2 : RRd ⟨#[48, 47, 53]⟩ 0 6 3 := k_ends 1 1 0 5 (of_decide_eq_true (by kernel_rfl)) (stopF_is (by kernel_rfl)) (of_decide_eq_true (by kernel_rfl)) (of_decide_eq_true (by kernel_rfl)) (by kernel_rfl) (stopF_is (by kernel_rfl)) (of_decide_eq_true (by kernel_rfl)) (of_decide_eq_true (by kernel_rfl)) (of_decide_eq_true (by kernel_rfl)) (by kernel_rfl) ⟨#[48]⟩ (by kernel_rfl) (by decide)
theorem bad3 : RRd ⟨#[]⟩ 0 6 0 := doc_first (of_decide_eq_true (by kernel_rfl)) (StopF.cut (k := 0) (stopF_is (by kernel_rfl))) (.inl rfl)
theorem bad4 : RRd ⟨#[45]⟩ 0 6 1 := doc_first (of_decide_eq_true (by kernel_rfl)) (StopF.cut (k := 0) (stopF_is (by kernel_rfl))) (.inl rfl)
theorem bad5 : RRd ⟨#[49, 47]⟩ 0 6 2 := k_below 1 0 1 (of_decide_eq_true (by kernel_rfl)) (stopF_is (by kernel_rfl)) (of_decide_eq_true (by kernel_rfl)) (of_decide_eq_true (by kernel_rfl)) (by kernel_rfl) (stopF_is (by kernel_rfl)) (.inl rfl)
theorem bad6 : RRd ⟨#[49, 47, 45, 50]⟩ 0 6 2 := k_below 1 0 1 (of_decide_eq_true (by kernel_rfl)) (stopF_is (by kernel_rfl)) (of_decide_eq_true (by kernel_rfl)) (of_decide_eq_true (by kernel_rfl)) (by kernel_rfl) (stopF_is (by kernel_rfl)) (.inl rfl)
theorem bad7 : RRd ⟨#[49, 47, 48, 50]⟩ 0 6 2 := k_below 1 1 1 (of_decide_eq_true (by kernel_rfl)) (stopF_is (by kernel_rfl)) (of_decide_eq_true (by kernel_rfl)) (of_decide_eq_true (by kernel_rfl)) (by kernel_rfl) (stopF_is (by kernel_rfl)) (.inr ⟨(of_decide_eq_true (by kernel_rfl)), (of_decide_eq_true (by kernel_rfl))⟩)
theorem bad8 : RRd ⟨#[45, 48]⟩ 0 6 1 := doc_first (of_decide_eq_true (by kernel_rfl)) (StopF.cut (k := 1) (stopF_is (by kernel_rfl))) (.inr ⟨(by kernel_rfl), (by kernel_rfl)⟩)
theorem bad9 : RRd ⟨#[48, 49]⟩ 0 6 1 := doc_behind (k := 1) (of_decide_eq_true (by kernel_rfl)) (StopF.cut (k := 1) (stopF_is (by kernel_rfl))) (fun h => absurd h.1 (by rw [show hp ⟨#[48, 49]⟩ 45 = false from (by kernel_rfl)]; decide)) (of_decide_eq_true (by kernel_rfl)) (of_decide_eq_true (by kernel_rfl))
theorem bad10 : RRd ⟨#[49, 47, 50, 120]⟩ 0 6 3 := k_more 1 1 1 (of_decide_eq_true (by kernel_rfl)) (stopF_is (by kernel_rfl)) (of_decide_eq_true (by kernel_rfl)) (of_decide_eq_true (by kernel_rfl)) (by kernel_rfl) (stopF_is (by kernel_rfl)) (of_decide_eq_true (by kernel_rfl)) (of_decide_eq_true (by kernel_rfl)) (of_decide_eq_true (by kernel_rfl))
def badT : List (ByteArray × Nat) := [(⟨#[52, 47, 54]⟩, 3), (⟨#[51, 47, 49]⟩, 3), (⟨#[48, 47, 53]⟩, 3), (⟨#[]⟩, 0), (⟨#[45]⟩, 1), (⟨#[49, 47]⟩, 2), (⟨#[49, 47, 45, 50]⟩, 2), (⟨#[49, 47, 48, 50]⟩, 2), (⟨#[45, 48]⟩, 1), (⟨#[48, 49]⟩, 1), (⟨#[49, 47, 50, 120]⟩, 3)]
def bdT (i : Nat) : ByteArray × Nat := badT.getD i (ByteArray.empty, 0)
theorem bad_at : ∀ i, i < 11 → RRd (bdT i).1 0 6 (bdT i).2 ∧ (bdT i).1.size ≤ 65536
  | 0, _ => ⟨bad0, by decide⟩
  | 1, _ => ⟨bad1, by decide⟩
  | 2, _ => ⟨bad2, by decide⟩
  | 3, _ => ⟨bad3, by decide⟩
  | 4, _ => ⟨bad4, by decide⟩
  | 5, _ => ⟨bad5, by decide⟩
  | 6, _ => ⟨bad6, by decide⟩
  | 7, _ => ⟨bad7, by decide⟩
  | 8, _ => ⟨bad8, by decide⟩
  | 9, _ => ⟨bad9, by decide⟩
  | 10, _ => ⟨bad10, by decide⟩
  | k + 11, h => absurd h (by omega)
/-- the list of texts that are none, in memory -/
def BadL (w : World) (g : Nat) : Prop := ∀ i, i < 11 → w.cell? ⟨g, i * 2, none⟩ = some (.string (bdT i).1) ∧ w.cell? ⟨g, i * 2 + 1, none⟩ = some (.int .i64 ((bdT i).2 : Nat))
theorem BadL.below {w w' : World} {g : Nat} (h : BadL w g) (hb : Below w.heap.size w w') : BadL w' g := fun i hi =>
  ⟨(hb.cell (World.block_lt_of_cell? w _ (h i hi).1)).trans (h i hi).1, (hb.cell (World.block_lt_of_cell? w _ (h i hi).2)).trans (h i hi).2⟩
theorem BadL.new (w : World) : BadL (w.alloc (.cells #[.string ⟨#[52, 47, 54]⟩, .int .i64 3, .string ⟨#[51, 47, 49]⟩, .int .i64 3, .string ⟨#[48, 47, 53]⟩, .int .i64 3, .string ⟨#[]⟩, .int .i64 0, .string ⟨#[45]⟩, .int .i64 1, .string ⟨#[49, 47]⟩, .int .i64 2, .string ⟨#[49, 47, 45, 50]⟩, .int .i64 2, .string ⟨#[49, 47, 48, 50]⟩, .int .i64 2, .string ⟨#[45, 48]⟩, .int .i64 1, .string ⟨#[48, 49]⟩, .int .i64 1, .string ⟨#[49, 47, 50, 120]⟩, .int .i64 3] 48)) w.heap.size := by
  have hh : (w.alloc (.cells #[.string ⟨#[52, 47, 54]⟩, .int .i64 3, .string ⟨#[51, 47, 49]⟩, .int .i64 3, .string ⟨#[48, 47, 53]⟩, .int .i64 3, .string ⟨#[]⟩, .int .i64 0, .string ⟨#[45]⟩, .int .i64 1, .string ⟨#[49, 47]⟩, .int .i64 2, .string ⟨#[49, 47, 45, 50]⟩, .int .i64 2, .string ⟨#[49, 47, 48, 50]⟩, .int .i64 2, .string ⟨#[45, 48]⟩, .int .i64 1, .string ⟨#[48, 49]⟩, .int .i64 1, .string ⟨#[49, 47, 50, 120]⟩, .int .i64 3] 48)).heap[w.heap.size]? = some (.cells #[.string ⟨#[52, 47, 54]⟩, .int .i64 3, .string ⟨#[51, 47, 49]⟩, .int .i64 3, .string ⟨#[48, 47, 53]⟩, .int .i64 3, .string ⟨#[]⟩, .int .i64 0, .string ⟨#[45]⟩, .int .i64 1, .string ⟨#[49, 47]⟩, .int .i64 2, .string ⟨#[49, 47, 45, 50]⟩, .int .i64 2, .string ⟨#[49, 47, 48, 50]⟩, .int .i64 2, .string ⟨#[45, 48]⟩, .int .i64 1, .string ⟨#[48, 49]⟩, .int .i64 1, .string ⟨#[49, 47, 50, 120]⟩, .int .i64 3] 48 (0, 0)) := heap_alloc_new _ _
  intro i hi
  match i, hi with
  | 0, _ => exact ⟨by unfold World.cell?; simp only [hh]; rfl, by unfold World.cell?; simp only [hh]; rfl⟩
  | 1, _ => exact ⟨by unfold World.cell?; simp only [hh]; rfl, by unfold World.cell?; simp only [hh]; rfl⟩
  | 2, _ => exact ⟨by unfold World.cell?; simp only [hh]; rfl, by unfold World.cell?; simp only [hh]; rfl⟩
  | 3, _ => exact ⟨by unfold World.cell?; simp only [hh]; rfl, by unfold World.cell?; simp only [hh]; rfl⟩
  | 4, _ => exact ⟨by unfold World.cell?; simp only [hh]; rfl, by unfold World.cell?; simp only [hh]; rfl⟩
  | 5, _ => exact ⟨by unfold World.cell?; simp only [hh]; rfl, by unfold World.cell?; simp only [hh]; rfl⟩
  | 6, _ => exact ⟨by unfold World.cell?; simp only [hh]; rfl, by unfold World.cell?; simp only [hh]; rfl⟩
  | 7, _ => exact ⟨by unfold World.cell?; simp only [hh]; rfl, by unfold World.cell?; simp only [hh]; rfl⟩
  | 8, _ => exact ⟨by unfold World.cell?; simp only [hh]; rfl, by unfold World.cell?; simp only [hh]; rfl⟩
  | 9, _ => exact ⟨by unfold World.cell?; simp only [hh]; rfl, by unfold World.cell?; simp only [hh]; rfl⟩
  | 10, _ => exact ⟨by unfold World.cell?; simp only [hh]; rfl, by unfold World.cell?; simp only [hh]; rfl⟩
  | k + 11, h => exact absurd h (by omega)
theorem ratL3 {w : World} {q1 q2 q3 : Rat} {s1 t1 : Bool} {m1 o1 : Option Addr} {n1 c1 p1 d1 : Nat} {s2 t2 : Bool} {m2 o2 : Option Addr} {n2 c2 p2 d2 : Nat} {s3 t3 : Bool} {m3 o3 : Option Addr} {n3 c3 p3 d3 : Nat} (h1 : RatAt w (.agg #[.bool s1, .slice m1 n1 c1, .bool t1, .slice o1 p1 d1]) q1) (h2 : RatAt w (.agg #[.bool s2, .slice m2 n2 c2, .bool t2, .slice o2 p2 d2]) q2) (h3 : RatAt w (.agg #[.bool s3, .slice m3 n3 c3, .bool t3, .slice o3 p3 d3]) q3) :
    RatL (w.alloc (.cells #[.bool s1, .slice m1 n1 c1, .bool t1, .slice o1 p1 d1, .bool s2, .slice m2 n2 c2, .bool t2, .slice o2 p2 d2, .bool s3, .slice m3 n3 c3, .bool t3, .slice o3 p3 d3] 27)) (.slice (some ⟨w.heap.size, 0, none⟩) 3 3) [q1, q2, q3] := by
  have hb := below_alloc w (.cells #[.bool s1, .slice m1 n1 c1, .bool t1, .slice o1 p1 d1, .bool s2, .slice m2 n2 c2, .bool t2, .slice o2 p2 d2, .bool s3, .slice m3 n3 c3, .bool t3, .slice o3 p3 d3] 27)
  have hh : (w.alloc (.cells #[.bool s1, .slice m1 n1 c1, .bool t1, .slice o1 p1 d1, .bool s2, .slice m2 n2 c2, .bool t2, .slice o2 p2 d2, .bool s3, .slice m3 n3 c3, .bool t3, .slice o3 p3 d3] 27)).heap[w.heap.size]? = some (.cells #[.bool s1, .slice m1 n1 c1, .bool t1, .slice o1 p1 d1, .bool s2, .slice m2 n2 c2, .bool t2, .slice o2 p2 d2, .bool s3, .slice m3 n3 c3, .bool t3, .slice o3 p3 d3] 27 (0, 0)) := heap_alloc_new _ _
  refine ⟨_, 3, rfl, by simp, by simp [maxLen], fun _ => ⟨w.heap.size, 0, rfl, fun i hi => ?_⟩⟩
  have k1 := h1.below hb
  have k2 := h2.below hb
  have k3 := h3.below hb
  generalize w.alloc (.cells #[.bool s1, .slice m1 n1 c1, .bool t1, .slice o1 p1 d1, .bool s2, .slice m2 n2 c2, .bool t2, .slice o2 p2 d2, .bool s3, .slice m3 n3 c3, .bool t3, .slice o3 p3 d3] 27) = u at *
  match i, hi with
  | 0, _ => exact ⟨_, _, _, _, _, _, _, _, by unfold World.cell?; simp only [hh]; rfl, by unfold World.cell?; simp only [hh]; rfl, by unfold World.cell?; simp only [hh]; rfl, by unfold World.cell?; simp only [hh]; rfl, k1⟩
  | 1, _ => exact ⟨_, _, _, _, _, _, _, _, by unfold World.cell?; simp only [hh]; rfl, by unfold World.cell?; simp only [hh]; rfl, by unfold World.cell?; simp only [hh]; rfl, by unfold World.cell?; simp only [hh]; rfl, k2⟩
  | 2, _ => exact ⟨_, _, _, _, _, _, _, _, by unfold World.cell?; simp only [hh]; rfl, by unfold World.cell?; simp only [hh]; rfl, by unfold World.cell?; simp only [hh]; rfl, by unfold World.cell?; simp only [hh]; rfl, k3⟩
theorem ratL0 (w : World) : RatL w (.slice none 0 0) [] := ⟨none, 0, rfl, Nat.le_refl _, Nat.zero_le _, fun h => absurd rfl h⟩
theorem allsz0 : AllSz [] := ⟨by decide, fun i hi => absurd hi (Nat.not_lt_zero i)⟩
theorem allsz3 {q1 q2 q3 : Rat} (h1 : SzR 300 q1) (h2 : SzR 300 q2) (h3 : SzR 300 q3) : AllSz [q1, q2, q3] := ⟨by simp, fun i hi => by
  match i, hi with
  | 0, _ => exact h1
  | 1, _ => exact h2
  | 2, _ => exact h3⟩
theorem ints3 {w : World} {la : Option Addr} {lc : Nat} {z0 z1 z2 : Int} (h : Ints w (.slice la 3 lc) [z0, z1, z2]) : ∃ b off, la = some ⟨b, off, none⟩ ∧ ∃ s0 m0 n0 c0 s1 m1 n1 c1 s2 m2 n2 c2,
    w.cell? ⟨b, off, none⟩ = some (.bool s0) ∧ w.cell? ⟨b, off + 1, none⟩ = some (.slice m0 n0 c0) ∧ w.cell? ⟨b, off + 2, none⟩ = some (.bool s1) ∧ w.cell? ⟨b, off + 3, none⟩ = some (.slice m1 n1 c1) ∧ w.cell? ⟨b, off + 4, none⟩ = some (.bool s2) ∧ w.cell? ⟨b, off + 5, none⟩ = some (.slice m2 n2 c2) ∧
    IntAt w (.agg #[.bool s0, .slice m0 n0 c0]) z0 ∧ IntAt w (.agg #[.bool s1, .slice m1 n1 c1]) z1 ∧ IntAt w (.agg #[.bool s2, .slice m2 n2 c2]) z2 := by
  obtain ⟨a', c', he, _, _, h3⟩ := h
  simp only [Value.slice.injEq] at he
  obtain ⟨rfl, _, rfl⟩ := he
  obtain ⟨b, off, rfl, h⟩ := h3 (by simp)
  obtain ⟨s0, m0, c0, n0, x0, y0, i0⟩ := h 0 (by simp)
  obtain ⟨s1, m1, c1, n1, x1, y1, i1⟩ := h 1 (by simp)
  obtain ⟨s2, m2, c2, n2, x2, y2, i2⟩ := h 2 (by simp)
  exact ⟨b, off, rfl, s0, m0, n0, c0, s1, m1, n1, c1, s2, m2, n2, c2, x0, y0, x1, y1, x2, y2, i0, i1, i2⟩
set_option maxRecDepth 100000 in
set_option maxHeartbeats 2000000 in
theorem kof_any (s : ByteArray) (q : Rat) (w : World) (hq : rtxt q = s) (hz : s.size ≤ 65536) :
    Calls Try.prog 7 #[.string s] w fun e w' => ∃ v, e = .returned v ∧ RatAt w' v q ∧ Below w.heap.size w w' := by
  have HQ := hide hq
  have HZ := hide hz
  clear hq hz
  have R0 := Box4.new w (.bool false) (.slice none 0 0) (.bool false) (.slice none 0 0)
  replace R0 := hide R0
  have HB := below_alloc w (.cells #[.bool false, .slice none 0 0, .bool false, .slice none 0 0] 27)
  replace HB := hide HB
  go_enter Try.func7, Try.ntmps7
  go_wp2_with fail
  generalize (w.alloc (.cells #[.bool false, .slice none 0 0, .bool false, .slice none 0 0] 27)) = w0 at *
  refine (rread_rat s _ (by have := HZ.out; omega)).mono ?_
  rintro e u1 ⟨⟨v, q', p, b, rfl, kx, hr⟩, hb⟩
  obtain ⟨rfl, rfl, rfl⟩ := rrd_back (q := q) (by rw [HQ.out]; exact HZ.out) (by rw [HQ.out]; exact hr)
  obtain ⟨s1, m1, n1, c1, t1, o1, p1, d1, rfl, ky⟩ := kx.cells
  replace R0 := hide (R0.out.step (hb))
  replace HB := hide (HB.out.trans ((hb).mono HB.out.size))
  have I1 := hide (ky)
  clear hb kx ky hr
  go_upto_region 2 with fail
  have V1 := Box4.new u1 (.bool s1) (.slice m1 n1 c1) (.bool t1) (.slice o1 p1 d1)
  replace V1 := V1.step (below_alloc _ (.cells #[.int .i64 0, .int .i64 0] 30))
  replace V1 := hide V1
  have V2 := BoxS.new (u1.alloc (.cells #[.bool s1, .slice m1 n1 c1, .bool t1, .slice o1 p1 d1] 27)) (.int .i64 0) (.int .i64 0)
  simp only [World.size_alloc] at V2
  replace V2 := hide V2
  have al := below_alloc u1 (.cells #[.bool s1, .slice m1 n1 c1, .bool t1, .slice o1 p1 d1] 27)
  replace al := al.trans ((below_alloc _ (.cells #[.int .i64 0, .int .i64 0] 30)).mono (by simp only [World.size_alloc]; omega))
  replace R0 := hide (R0.out.step (al))
  replace HB := hide (HB.out.trans ((al).mono HB.out.size))
  replace I1 := hide (I1.out.below (al))
  clear al
  generalize ((u1.alloc (.cells #[.bool s1, .slice m1 n1 c1, .bool t1, .slice o1 p1 d1] 27)).alloc (.cells #[.int .i64 0, .int .i64 0] 30)) = u1a at *
  generalize u1.heap.size = g1 at *
  have hV10 := V1.out.cell0
  have hV11 := V1.out.cell1
  have hV12 := V1.out.cell2
  have hV13 := V1.out.cell3
  have hR00 := R0.out.cell0
  have hR01 := R0.out.cell1
  have hR02 := R0.out.cell2
  have hR03 := R0.out.cell3
  have fR00 := R0.out.free 0
  have fR01 := R0.out.free 1
  have fR02 := R0.out.free 2
  have fR03 := R0.out.free 3
  go_wp2
  refine ret_rat rfl w.heap.size _ _ _ _ rfl (R0.out.put _ _ _ _) rfl ?_
  exact ⟨_, rfl, I1.out.keep (R0.out.keeps (by simp) (by simp) (by simp) (by simp) _ _ _ _), below_put4 HB.out (by omega) _ _ _ _⟩
theorem ktxt_any (v : Value) (q : Rat) (s : ByteArray) (w : World) (h : RatAt w v q) (hz : SzR 300 q) (hs : rtxt q = s) : Calls Try.prog 12 #[v] w fun e w' => e = .returned (.string s) ∧ Below w.heap.size w w' := by
  rw [← hs]; exact rttext_any v q w h (hz.mono (by decide))
theorem kitx_any (v : Value) (z : Int) (s : ByteArray) (w : World) (h : IntAt w v z) (hz : @decide (SzI 1 z) (decSz _ _) = true) (hs : itxt z = s) : Calls Try.prog 14 #[v] w fun e w' => e = .returned (.string s) ∧ Below w.heap.size w w' := by
  rw [← hs]; exact itext_any v z w h ((@of_decide_eq_true _ (decSz _ _) hz).len (by decide))
theorem kcmp_any (v1 v2 : Value) (x y : Rat) (c : Int) (w : World) (h1 : RatAt w v1 x) (h2 : RatAt w v2 y) (hx : SzR 300 x) (hy : SzR 300 y) (hc : cmpZ (x.num * (y.den : Int)) (y.num * (x.den : Int)) = c) : Calls Try.prog 19 #[v1, v2] w fun e w' => e = .returned (.int .i64 c) ∧ Below w.heap.size w w' := by
  rw [← hc]; exact rtcmp_any v1 v2 x y w h1 h2 (hx.mono (by decide)) (hy.mono (by decide))
theorem kwhole_any (v : Value) (q : Rat) (w : World) (h : RatAt w v q) (hq : q.den = 1) : Calls Try.prog 15 #[v] w fun e w' => e = .returned (.bool true) ∧ Below w.heap.size w w' := by
  have := iswhole_any v q w h
  rw [hq] at this
  exact this
theorem ksgn_any (v : Value) (q : Rat) (c : Int) (w : World) (h : RatAt w v q) (hq : sgnI q.num = c) : Calls Try.prog 16 #[v] w fun e w' => e = .returned (.int .i64 c) ∧ Below w.heap.size w w' := by
  rw [← hq]; exact rsgn_any v q w h
def q12 : Rat := Rat.divInt 1 2
def q13 : Rat := Rat.divInt 1 3
def q16 : Rat := Rat.divInt 1 6
def q23 : Rat := Rat.divInt (-2) 3
def q32 : Rat := Rat.divInt (-3) 2
def q4 : Rat := Rat.divInt 4 1
def qz : Rat := Rat.divInt 0 (-5)
theorem q13_ne : q13 ≠ 0 := fun e => absurd (congrArg Rat.num e) (show q13.num ≠ (0 : Rat).num from of_decide_eq_true (by kernel_rfl))
end Go.Proofs.Ytgkibmigbjjnnaa
