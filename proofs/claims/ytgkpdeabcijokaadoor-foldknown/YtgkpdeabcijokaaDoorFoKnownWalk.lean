/- swagelaw13.FoldKnown answers true. -/
import Derived.Test.YtgkpdeabcijokaaDoorFoWk
namespace Go.Proofs.YtgkpdeabcijokaaDoor
open Go.RowKit

theorem neq_insK (xo xt xa xb xc yo yt ya yb yc : Int) (w : World) : (binOp .neq 24 (.agg #[.int .i64 xo, .int .i64 xt, .int .i64 xa, .int .i64 xb, .int .i64 xc]) (.agg #[.int .i64 yo, .int .i64 yt, .int .i64 ya, .int .i64 yb, .int .i64 yc])).run Tryd.prog w = .ok (.bool (!eqI ⟨xo, xt, xa, xb, xc⟩ ⟨yo, yt, ya, yb, yc⟩)) w := by
  unfold eqI
  by_cases h1 : xo = yo <;> by_cases h2 : xt = yt <;> by_cases h3 : xa = ya <;> by_cases h4 : xb = yb <;> by_cases h5 : xc = yc <;> simp [go_sem, h1, h2, h3, h4, h5]
theorem neq_sameK (xo xt xa xb xc : Int) (w : World) : (binOp .neq 24 (.agg #[.int .i64 xo, .int .i64 xt, .int .i64 xa, .int .i64 xb, .int .i64 xc]) (.agg #[.int .i64 xo, .int .i64 xt, .int .i64 xa, .int .i64 xb, .int .i64 xc])).run Tryd.prog w = .ok (.bool false) w := by
  rw [neq_insK, eqI_yes rfl]; rfl
theorem zeK (w : World) : PgAt w (.agg #[.int .i64 0, .int .i64 0, .slice none 0 0, .slice none 0 0]) ⟨0, 0, [], []⟩ :=
  ⟨none, 0, none, 0, rfl, ⟨none, 0, rfl, Nat.le_refl _, Nat.zero_le _, fun h => absurd rfl h⟩, ⟨none, 0, rfl, Nat.le_refl _, Nat.zero_le _, fun h => absurd rfl h⟩⟩
theorem cellsK {w : World} {b n : Nat} {c : Array Value} {t : TypeId} {v : Value} (h : w.heap[b]? = some (.cells c t (0, 0))) (hv : c[n]? = some v) : w.cell? ⟨b, n, none⟩ = some v := by
  unfold World.cell?
  rw [h]
  exact hv
def tb1 : Array Value := #[.int .i64 6, .int .i64 1, .int .i64 0, .int .i64 0, .int .i64 (-1), .int .i64 2, .int .i64 1, .int .i64 0, .int .i64 0, .int .i64 0, .bool true, .int .i64 3, .int .i64 1, .int .i64 0, .int .i64 0, .int .i64 0, .int .i64 7, .int .i64 1, .int .i64 0, .int .i64 0, .int .i64 1, .bool true, .int .i64 5, .int .i64 1, .int .i64 0, .int .i64 0, .int .i64 6, .int .i64 5, .int .i64 1, .int .i64 0, .int .i64 0, .int .i64 6, .bool false, .int .i64 5, .int .i64 1, .int .i64 0, .int .i64 0, .int .i64 (-2), .int .i64 5, .int .i64 1, .int .i64 0, .int .i64 0, .int .i64 (-2), .bool false, .int .i64 5, .int .i64 1, .int .i64 0, .int .i64 0, .int .i64 0, .int .i64 0, .int .i64 0, .int .i64 0, .int .i64 0, .int .i64 0, .bool false, .int .i64 5, .int .i64 128, .int .i64 0, .int .i64 0, .int .i64 1, .int .i64 0, .int .i64 0, .int .i64 0, .int .i64 0, .int .i64 0, .bool false]
def tb2 : Array Value := #[.int .i64 5, .int .i64 1, .int .i64 0, .int .i64 0, .int .i64 6, .int .i64 6, .int .i64 1, .int .i64 1, .int .i64 0, .int .i64 3, .int .i64 7, .int .i64 1, .int .i64 0, .int .i64 0, .int .i64 1, .bool true, .int .i64 5, .int .i64 1, .int .i64 0, .int .i64 0, .int .i64 6, .int .i64 6, .int .i64 1, .int .i64 1, .int .i64 0, .int .i64 5, .int .i64 0, .int .i64 0, .int .i64 0, .int .i64 0, .int .i64 0, .bool false, .int .i64 5, .int .i64 1, .int .i64 0, .int .i64 0, .int .i64 3, .int .i64 6, .int .i64 1, .int .i64 1, .int .i64 0, .int .i64 (-6), .int .i64 6, .int .i64 1, .int .i64 0, .int .i64 0, .int .i64 (-2), .bool true, .int .i64 6, .int .i64 1, .int .i64 0, .int .i64 0, .int .i64 2, .int .i64 2, .int .i64 1, .int .i64 1, .int .i64 0, .int .i64 0, .int .i64 0, .int .i64 0, .int .i64 0, .int .i64 0, .int .i64 0, .bool false, .int .i64 8, .int .i64 1, .int .i64 0, .int .i64 0, .int .i64 1, .int .i64 7, .int .i64 1, .int .i64 1, .int .i64 0, .int .i64 1, .int .i64 0, .int .i64 0, .int .i64 0, .int .i64 0, .int .i64 0, .bool false, .int .i64 1, .int .i64 1, .int .i64 0, .int .i64 0, .int .i64 0, .int .i64 3, .int .i64 1, .int .i64 1, .int .i64 2, .int .i64 0, .int .i64 0, .int .i64 0, .int .i64 0, .int .i64 0, .int .i64 0, .bool false, .int .i64 2, .int .i64 1, .int .i64 0, .int .i64 0, .int .i64 0, .int .i64 2, .int .i64 1, .int .i64 1, .int .i64 0, .int .i64 0, .int .i64 1, .int .i64 1, .int .i64 0, .int .i64 0, .int .i64 0, .bool true, .int .i64 7, .int .i64 1, .int .i64 0, .int .i64 0, .int .i64 3, .int .i64 8, .int .i64 1, .int .i64 1, .int .i64 0, .int .i64 5, .int .i64 8, .int .i64 1, .int .i64 0, .int .i64 0, .int .i64 2, .bool true, .int .i64 5, .int .i64 1, .int .i64 0, .int .i64 0, .int .i64 300, .int .i64 5, .int .i64 1, .int .i64 1, .int .i64 0, .int .i64 3, .int .i64 0, .int .i64 0, .int .i64 0, .int .i64 0, .int .i64 0, .bool false]
def r1i (k : Nat) : Ins := match k with
  | 0 => ⟨6, 1, 0, 0, -1⟩
  | 1 => ⟨3, 1, 0, 0, 0⟩
  | 2 => ⟨5, 1, 0, 0, 6⟩
  | 3 => ⟨5, 1, 0, 0, -2⟩
  | 4 => ⟨5, 1, 0, 0, 0⟩
  | _ => ⟨5, 128, 0, 0, 1⟩
def r1w (k : Nat) : Ins := match k with
  | 0 => ⟨2, 1, 0, 0, 0⟩
  | 1 => ⟨7, 1, 0, 0, 1⟩
  | 2 => ⟨5, 1, 0, 0, 6⟩
  | 3 => ⟨5, 1, 0, 0, -2⟩
  | 4 => ⟨0, 0, 0, 0, 0⟩
  | _ => ⟨0, 0, 0, 0, 0⟩
def r1k (k : Nat) : Bool := match k with
  | 0 => true
  | 1 => true
  | 2 => false
  | 3 => false
  | 4 => false
  | _ => false
set_option maxRecDepth 100000 in
theorem tb1c0 (k : Nat) (hk : k < 6) : tb1[k * 11]? = some (.int .i64 (r1i k).op) := by
  obtain rfl | rfl | rfl | rfl | rfl | rfl : k = 0 ∨ k = 1 ∨ k = 2 ∨ k = 3 ∨ k = 4 ∨ k = 5 := by omega
  all_goals rfl
set_option maxRecDepth 100000 in
theorem tb1c1 (k : Nat) (hk : k < 6) : tb1[k * 11 + 1]? = some (.int .i64 (r1i k).to) := by
  obtain rfl | rfl | rfl | rfl | rfl | rfl : k = 0 ∨ k = 1 ∨ k = 2 ∨ k = 3 ∨ k = 4 ∨ k = 5 := by omega
  all_goals rfl
set_option maxRecDepth 100000 in
theorem tb1c2 (k : Nat) (hk : k < 6) : tb1[k * 11 + 2]? = some (.int .i64 (r1i k).a) := by
  obtain rfl | rfl | rfl | rfl | rfl | rfl : k = 0 ∨ k = 1 ∨ k = 2 ∨ k = 3 ∨ k = 4 ∨ k = 5 := by omega
  all_goals rfl
set_option maxRecDepth 100000 in
theorem tb1c3 (k : Nat) (hk : k < 6) : tb1[k * 11 + 3]? = some (.int .i64 (r1i k).b) := by
  obtain rfl | rfl | rfl | rfl | rfl | rfl : k = 0 ∨ k = 1 ∨ k = 2 ∨ k = 3 ∨ k = 4 ∨ k = 5 := by omega
  all_goals rfl
set_option maxRecDepth 100000 in
theorem tb1c4 (k : Nat) (hk : k < 6) : tb1[k * 11 + 4]? = some (.int .i64 (r1i k).c) := by
  obtain rfl | rfl | rfl | rfl | rfl | rfl : k = 0 ∨ k = 1 ∨ k = 2 ∨ k = 3 ∨ k = 4 ∨ k = 5 := by omega
  all_goals rfl
set_option maxRecDepth 100000 in
theorem tb1c5 (k : Nat) (hk : k < 6) : tb1[k * 11 + 5]? = some (.int .i64 (r1w k).op) := by
  obtain rfl | rfl | rfl | rfl | rfl | rfl : k = 0 ∨ k = 1 ∨ k = 2 ∨ k = 3 ∨ k = 4 ∨ k = 5 := by omega
  all_goals rfl
set_option maxRecDepth 100000 in
theorem tb1c6 (k : Nat) (hk : k < 6) : tb1[k * 11 + 6]? = some (.int .i64 (r1w k).to) := by
  obtain rfl | rfl | rfl | rfl | rfl | rfl : k = 0 ∨ k = 1 ∨ k = 2 ∨ k = 3 ∨ k = 4 ∨ k = 5 := by omega
  all_goals rfl
set_option maxRecDepth 100000 in
theorem tb1c7 (k : Nat) (hk : k < 6) : tb1[k * 11 + 7]? = some (.int .i64 (r1w k).a) := by
  obtain rfl | rfl | rfl | rfl | rfl | rfl : k = 0 ∨ k = 1 ∨ k = 2 ∨ k = 3 ∨ k = 4 ∨ k = 5 := by omega
  all_goals rfl
set_option maxRecDepth 100000 in
theorem tb1c8 (k : Nat) (hk : k < 6) : tb1[k * 11 + 8]? = some (.int .i64 (r1w k).b) := by
  obtain rfl | rfl | rfl | rfl | rfl | rfl : k = 0 ∨ k = 1 ∨ k = 2 ∨ k = 3 ∨ k = 4 ∨ k = 5 := by omega
  all_goals rfl
set_option maxRecDepth 100000 in
theorem tb1c9 (k : Nat) (hk : k < 6) : tb1[k * 11 + 9]? = some (.int .i64 (r1w k).c) := by
  obtain rfl | rfl | rfl | rfl | rfl | rfl : k = 0 ∨ k = 1 ∨ k = 2 ∨ k = 3 ∨ k = 4 ∨ k = 5 := by omega
  all_goals rfl
set_option maxRecDepth 100000 in
theorem tb1c10 (k : Nat) (hk : k < 6) : tb1[k * 11 + 10]? = some (.bool (r1k k)) := by
  obtain rfl | rfl | rfl | rfl | rfl | rfl : k = 0 ∨ k = 1 ∨ k = 2 ∨ k = 3 ∨ k = 4 ∨ k = 5 := by omega
  all_goals rfl
theorem kq1 (k : Nat) (hk : k < 6) : plE (r1i k) = .returned (.tuple #[.agg #[.int .i64 (r1w k).op, .int .i64 (r1w k).to, .int .i64 (r1w k).a, .int .i64 (r1w k).b, .int .i64 (r1w k).c], .bool (r1k k)]) := by
  obtain rfl | rfl | rfl | rfl | rfl | rfl : k = 0 ∨ k = 1 ∨ k = 2 ∨ k = 3 ∨ k = 4 ∨ k = 5 := by omega
  all_goals rfl
def r2a (k : Nat) : Ins := match k with
  | 0 => ⟨5, 1, 0, 0, 6⟩
  | 1 => ⟨5, 1, 0, 0, 6⟩
  | 2 => ⟨5, 1, 0, 0, 3⟩
  | 3 => ⟨6, 1, 0, 0, 2⟩
  | 4 => ⟨8, 1, 0, 0, 1⟩
  | 5 => ⟨1, 1, 0, 0, 0⟩
  | 6 => ⟨2, 1, 0, 0, 0⟩
  | 7 => ⟨7, 1, 0, 0, 3⟩
  | _ => ⟨5, 1, 0, 0, 300⟩
def r2b (k : Nat) : Ins := match k with
  | 0 => ⟨6, 1, 1, 0, 3⟩
  | 1 => ⟨6, 1, 1, 0, 5⟩
  | 2 => ⟨6, 1, 1, 0, -6⟩
  | 3 => ⟨2, 1, 1, 0, 0⟩
  | 4 => ⟨7, 1, 1, 0, 1⟩
  | 5 => ⟨3, 1, 1, 2, 0⟩
  | 6 => ⟨2, 1, 1, 0, 0⟩
  | 7 => ⟨8, 1, 1, 0, 5⟩
  | _ => ⟨5, 1, 1, 0, 3⟩
def r2w (k : Nat) : Ins := match k with
  | 0 => ⟨7, 1, 0, 0, 1⟩
  | 1 => ⟨0, 0, 0, 0, 0⟩
  | 2 => ⟨6, 1, 0, 0, -2⟩
  | 3 => ⟨0, 0, 0, 0, 0⟩
  | 4 => ⟨0, 0, 0, 0, 0⟩
  | 5 => ⟨0, 0, 0, 0, 0⟩
  | 6 => ⟨1, 1, 0, 0, 0⟩
  | 7 => ⟨8, 1, 0, 0, 2⟩
  | _ => ⟨0, 0, 0, 0, 0⟩
def r2k (k : Nat) : Bool := match k with
  | 0 => true
  | 1 => false
  | 2 => true
  | 3 => false
  | 4 => false
  | 5 => false
  | 6 => true
  | 7 => true
  | _ => false
set_option maxRecDepth 100000 in
theorem tb2c0 (k : Nat) (hk : k < 9) : tb2[k * 16]? = some (.int .i64 (r2a k).op) := by
  obtain rfl | rfl | rfl | rfl | rfl | rfl | rfl | rfl | rfl : k = 0 ∨ k = 1 ∨ k = 2 ∨ k = 3 ∨ k = 4 ∨ k = 5 ∨ k = 6 ∨ k = 7 ∨ k = 8 := by omega
  all_goals rfl
set_option maxRecDepth 100000 in
theorem tb2c1 (k : Nat) (hk : k < 9) : tb2[k * 16 + 1]? = some (.int .i64 (r2a k).to) := by
  obtain rfl | rfl | rfl | rfl | rfl | rfl | rfl | rfl | rfl : k = 0 ∨ k = 1 ∨ k = 2 ∨ k = 3 ∨ k = 4 ∨ k = 5 ∨ k = 6 ∨ k = 7 ∨ k = 8 := by omega
  all_goals rfl
set_option maxRecDepth 100000 in
theorem tb2c2 (k : Nat) (hk : k < 9) : tb2[k * 16 + 2]? = some (.int .i64 (r2a k).a) := by
  obtain rfl | rfl | rfl | rfl | rfl | rfl | rfl | rfl | rfl : k = 0 ∨ k = 1 ∨ k = 2 ∨ k = 3 ∨ k = 4 ∨ k = 5 ∨ k = 6 ∨ k = 7 ∨ k = 8 := by omega
  all_goals rfl
set_option maxRecDepth 100000 in
theorem tb2c3 (k : Nat) (hk : k < 9) : tb2[k * 16 + 3]? = some (.int .i64 (r2a k).b) := by
  obtain rfl | rfl | rfl | rfl | rfl | rfl | rfl | rfl | rfl : k = 0 ∨ k = 1 ∨ k = 2 ∨ k = 3 ∨ k = 4 ∨ k = 5 ∨ k = 6 ∨ k = 7 ∨ k = 8 := by omega
  all_goals rfl
set_option maxRecDepth 100000 in
theorem tb2c4 (k : Nat) (hk : k < 9) : tb2[k * 16 + 4]? = some (.int .i64 (r2a k).c) := by
  obtain rfl | rfl | rfl | rfl | rfl | rfl | rfl | rfl | rfl : k = 0 ∨ k = 1 ∨ k = 2 ∨ k = 3 ∨ k = 4 ∨ k = 5 ∨ k = 6 ∨ k = 7 ∨ k = 8 := by omega
  all_goals rfl
set_option maxRecDepth 100000 in
theorem tb2c5 (k : Nat) (hk : k < 9) : tb2[k * 16 + 5]? = some (.int .i64 (r2b k).op) := by
  obtain rfl | rfl | rfl | rfl | rfl | rfl | rfl | rfl | rfl : k = 0 ∨ k = 1 ∨ k = 2 ∨ k = 3 ∨ k = 4 ∨ k = 5 ∨ k = 6 ∨ k = 7 ∨ k = 8 := by omega
  all_goals rfl
set_option maxRecDepth 100000 in
theorem tb2c6 (k : Nat) (hk : k < 9) : tb2[k * 16 + 6]? = some (.int .i64 (r2b k).to) := by
  obtain rfl | rfl | rfl | rfl | rfl | rfl | rfl | rfl | rfl : k = 0 ∨ k = 1 ∨ k = 2 ∨ k = 3 ∨ k = 4 ∨ k = 5 ∨ k = 6 ∨ k = 7 ∨ k = 8 := by omega
  all_goals rfl
set_option maxRecDepth 100000 in
theorem tb2c7 (k : Nat) (hk : k < 9) : tb2[k * 16 + 7]? = some (.int .i64 (r2b k).a) := by
  obtain rfl | rfl | rfl | rfl | rfl | rfl | rfl | rfl | rfl : k = 0 ∨ k = 1 ∨ k = 2 ∨ k = 3 ∨ k = 4 ∨ k = 5 ∨ k = 6 ∨ k = 7 ∨ k = 8 := by omega
  all_goals rfl
set_option maxRecDepth 100000 in
theorem tb2c8 (k : Nat) (hk : k < 9) : tb2[k * 16 + 8]? = some (.int .i64 (r2b k).b) := by
  obtain rfl | rfl | rfl | rfl | rfl | rfl | rfl | rfl | rfl : k = 0 ∨ k = 1 ∨ k = 2 ∨ k = 3 ∨ k = 4 ∨ k = 5 ∨ k = 6 ∨ k = 7 ∨ k = 8 := by omega
  all_goals rfl
set_option maxRecDepth 100000 in
theorem tb2c9 (k : Nat) (hk : k < 9) : tb2[k * 16 + 9]? = some (.int .i64 (r2b k).c) := by
  obtain rfl | rfl | rfl | rfl | rfl | rfl | rfl | rfl | rfl : k = 0 ∨ k = 1 ∨ k = 2 ∨ k = 3 ∨ k = 4 ∨ k = 5 ∨ k = 6 ∨ k = 7 ∨ k = 8 := by omega
  all_goals rfl
set_option maxRecDepth 100000 in
theorem tb2c10 (k : Nat) (hk : k < 9) : tb2[k * 16 + 10]? = some (.int .i64 (r2w k).op) := by
  obtain rfl | rfl | rfl | rfl | rfl | rfl | rfl | rfl | rfl : k = 0 ∨ k = 1 ∨ k = 2 ∨ k = 3 ∨ k = 4 ∨ k = 5 ∨ k = 6 ∨ k = 7 ∨ k = 8 := by omega
  all_goals rfl
set_option maxRecDepth 100000 in
theorem tb2c11 (k : Nat) (hk : k < 9) : tb2[k * 16 + 11]? = some (.int .i64 (r2w k).to) := by
  obtain rfl | rfl | rfl | rfl | rfl | rfl | rfl | rfl | rfl : k = 0 ∨ k = 1 ∨ k = 2 ∨ k = 3 ∨ k = 4 ∨ k = 5 ∨ k = 6 ∨ k = 7 ∨ k = 8 := by omega
  all_goals rfl
set_option maxRecDepth 100000 in
theorem tb2c12 (k : Nat) (hk : k < 9) : tb2[k * 16 + 12]? = some (.int .i64 (r2w k).a) := by
  obtain rfl | rfl | rfl | rfl | rfl | rfl | rfl | rfl | rfl : k = 0 ∨ k = 1 ∨ k = 2 ∨ k = 3 ∨ k = 4 ∨ k = 5 ∨ k = 6 ∨ k = 7 ∨ k = 8 := by omega
  all_goals rfl
set_option maxRecDepth 100000 in
theorem tb2c13 (k : Nat) (hk : k < 9) : tb2[k * 16 + 13]? = some (.int .i64 (r2w k).b) := by
  obtain rfl | rfl | rfl | rfl | rfl | rfl | rfl | rfl | rfl : k = 0 ∨ k = 1 ∨ k = 2 ∨ k = 3 ∨ k = 4 ∨ k = 5 ∨ k = 6 ∨ k = 7 ∨ k = 8 := by omega
  all_goals rfl
set_option maxRecDepth 100000 in
theorem tb2c14 (k : Nat) (hk : k < 9) : tb2[k * 16 + 14]? = some (.int .i64 (r2w k).c) := by
  obtain rfl | rfl | rfl | rfl | rfl | rfl | rfl | rfl | rfl : k = 0 ∨ k = 1 ∨ k = 2 ∨ k = 3 ∨ k = 4 ∨ k = 5 ∨ k = 6 ∨ k = 7 ∨ k = 8 := by omega
  all_goals rfl
set_option maxRecDepth 100000 in
theorem tb2c15 (k : Nat) (hk : k < 9) : tb2[k * 16 + 15]? = some (.bool (r2k k)) := by
  obtain rfl | rfl | rfl | rfl | rfl | rfl | rfl | rfl | rfl : k = 0 ∨ k = 1 ∨ k = 2 ∨ k = 3 ∨ k = 4 ∨ k = 5 ∨ k = 6 ∨ k = 7 ∨ k = 8 := by omega
  all_goals rfl
theorem kq2 (k : Nat) (hk : k < 9) : mlE (meT (r2a k) (r2b k)) = .returned (.tuple #[.agg #[.int .i64 (r2w k).op, .int .i64 (r2w k).to, .int .i64 (r2w k).a, .int .i64 (r2w k).b, .int .i64 (r2w k).c], .bool (r2k k)]) := by
  obtain rfl | rfl | rfl | rfl | rfl | rfl | rfl | rfl | rfl : k = 0 ∨ k = 1 ∨ k = 2 ∨ k = 3 ∨ k = 4 ∨ k = 5 ∨ k = 6 ∨ k = 7 ∨ k = 8 := by omega
  all_goals rfl
set_option maxRecDepth 100000 in
set_option maxHeartbeats 32000000 in
theorem fknown_walk (w : World) (hT : TabW64 w) : Calls Tryd.prog 3 #[] w fun e w' => e = .returned (.bool true) ∧ Below w.heap.size w w' := by
  have HT := hide hT
  have HB := hide (Below.refl w.heap.size w)
  clear hT
  go_enter Tryd.func3, Tryd.ntmps3
  go_wp2_with fail
  refine (works_any _ HT.out).mono ?_
  rintro e w2 ⟨rfl, hb⟩
  replace HT := hide (HT.out.below hb)
  replace HB := hide (HB.out.trans (hb.mono HB.out.size))
  clear hb
  go_wp2_with fail
  refine (in_any 6 1 0 (-1) _).mono ?_
  rintro e w3 ⟨rfl, hb⟩
  replace HT := hide (HT.out.below hb)
  replace HB := hide (HB.out.trans (hb.mono HB.out.size))
  clear hb
  go_wp2_with fail
  refine (in_any 2 1 0 0 _).mono ?_
  rintro e w4 ⟨rfl, hb⟩
  replace HT := hide (HT.out.below hb)
  replace HB := hide (HB.out.trans (hb.mono HB.out.size))
  clear hb
  go_wp2_with fail
  refine (in_any 7 1 0 1 _).mono ?_
  rintro e w5 ⟨rfl, hb⟩
  replace HT := hide (HT.out.below hb)
  replace HB := hide (HB.out.trans (hb.mono HB.out.size))
  clear hb
  go_wp2_with fail
  refine (in_any 5 1 0 6 _).mono ?_
  rintro e w6 ⟨rfl, hb⟩
  replace HT := hide (HT.out.below hb)
  replace HB := hide (HB.out.trans (hb.mono HB.out.size))
  clear hb
  go_wp2_with fail
  refine (in_any 5 1 0 6 _).mono ?_
  rintro e w7 ⟨rfl, hb⟩
  replace HT := hide (HT.out.below hb)
  replace HB := hide (HB.out.trans (hb.mono HB.out.size))
  clear hb
  go_wp2_with fail
  refine (in_any 5 1 0 (-2) _).mono ?_
  rintro e w8 ⟨rfl, hb⟩
  replace HT := hide (HT.out.below hb)
  replace HB := hide (HB.out.trans (hb.mono HB.out.size))
  clear hb
  go_wp2_with fail
  refine (in_any 5 1 0 (-2) _).mono ?_
  rintro e w9 ⟨rfl, hb⟩
  replace HT := hide (HT.out.below hb)
  replace HB := hide (HB.out.trans (hb.mono HB.out.size))
  clear hb
  go_wp2_with fail
  refine (in_any 5 1 0 0 _).mono ?_
  rintro e w10 ⟨rfl, hb⟩
  replace HT := hide (HT.out.below hb)
  replace HB := hide (HB.out.trans (hb.mono HB.out.size))
  clear hb
  go_wp2_with fail
  refine (in_any 5 128 0 1 _).mono ?_
  rintro e w11 ⟨rfl, hb⟩
  replace HT := hide (HT.out.below hb)
  replace HB := hide (HB.out.trans (hb.mono HB.out.size))
  clear hb
  go_upto_region 4 with fail
  have hb := below_alloc w11 (.cells #[.int .i64 6, .int .i64 1, .int .i64 0, .int .i64 0, .int .i64 (-1), .int .i64 2, .int .i64 1, .int .i64 0, .int .i64 0, .int .i64 0, .bool true, .int .i64 3, .int .i64 1, .int .i64 0, .int .i64 0, .int .i64 0, .int .i64 7, .int .i64 1, .int .i64 0, .int .i64 0, .int .i64 1, .bool true, .int .i64 5, .int .i64 1, .int .i64 0, .int .i64 0, .int .i64 6, .int .i64 5, .int .i64 1, .int .i64 0, .int .i64 0, .int .i64 6, .bool false, .int .i64 5, .int .i64 1, .int .i64 0, .int .i64 0, .int .i64 (-2), .int .i64 5, .int .i64 1, .int .i64 0, .int .i64 0, .int .i64 (-2), .bool false, .int .i64 5, .int .i64 1, .int .i64 0, .int .i64 0, .int .i64 0, .int .i64 0, .int .i64 0, .int .i64 0, .int .i64 0, .int .i64 0, .bool false, .int .i64 5, .int .i64 128, .int .i64 0, .int .i64 0, .int .i64 1, .int .i64 0, .int .i64 0, .int .i64 0, .int .i64 0, .int .i64 0, .bool false] 26)
  have HT1x : Hid ((w11.alloc (.cells #[.int .i64 6, .int .i64 1, .int .i64 0, .int .i64 0, .int .i64 (-1), .int .i64 2, .int .i64 1, .int .i64 0, .int .i64 0, .int .i64 0, .bool true, .int .i64 3, .int .i64 1, .int .i64 0, .int .i64 0, .int .i64 0, .int .i64 7, .int .i64 1, .int .i64 0, .int .i64 0, .int .i64 1, .bool true, .int .i64 5, .int .i64 1, .int .i64 0, .int .i64 0, .int .i64 6, .int .i64 5, .int .i64 1, .int .i64 0, .int .i64 0, .int .i64 6, .bool false, .int .i64 5, .int .i64 1, .int .i64 0, .int .i64 0, .int .i64 (-2), .int .i64 5, .int .i64 1, .int .i64 0, .int .i64 0, .int .i64 (-2), .bool false, .int .i64 5, .int .i64 1, .int .i64 0, .int .i64 0, .int .i64 0, .int .i64 0, .int .i64 0, .int .i64 0, .int .i64 0, .int .i64 0, .bool false, .int .i64 5, .int .i64 128, .int .i64 0, .int .i64 0, .int .i64 1, .int .i64 0, .int .i64 0, .int .i64 0, .int .i64 0, .int .i64 0, .bool false] 26)).heap[w11.heap.size]? = some (.cells tb1 26 (0, 0))) := hide (heap_alloc_new _ _)
  replace HT := hide (HT.out.below hb)
  replace HB := hide (HB.out.trans (hb.mono HB.out.size))
  clear hb
  generalize w11.alloc (.cells #[.int .i64 6, .int .i64 1, .int .i64 0, .int .i64 0, .int .i64 (-1), .int .i64 2, .int .i64 1, .int .i64 0, .int .i64 0, .int .i64 0, .bool true, .int .i64 3, .int .i64 1, .int .i64 0, .int .i64 0, .int .i64 0, .int .i64 7, .int .i64 1, .int .i64 0, .int .i64 0, .int .i64 1, .bool true, .int .i64 5, .int .i64 1, .int .i64 0, .int .i64 0, .int .i64 6, .int .i64 5, .int .i64 1, .int .i64 0, .int .i64 0, .int .i64 6, .bool false, .int .i64 5, .int .i64 1, .int .i64 0, .int .i64 0, .int .i64 (-2), .int .i64 5, .int .i64 1, .int .i64 0, .int .i64 0, .int .i64 (-2), .bool false, .int .i64 5, .int .i64 1, .int .i64 0, .int .i64 0, .int .i64 0, .int .i64 0, .int .i64 0, .int .i64 0, .int .i64 0, .int .i64 0, .bool false, .int .i64 5, .int .i64 128, .int .i64 0, .int .i64 0, .int .i64 1, .int .i64 0, .int .i64 0, .int .i64 0, .int .i64 0, .int .i64 0, .bool false] 26) = w12 at *
  generalize w11.heap.size = HT1xb at *
  go_loopw [33, 2, 3, 4] (fun kv _ _ _ wr => ∃ k : Nat, k ≤ 6 ∧ kv = .int .i64 (k : Nat) ∧ Below w12.heap.size w12 wr) (fun kv _ _ _ _ => 6 - (intOf kv).toNat)
  case atStart => exact ⟨0, Nat.zero_le _, rfl, Below.refl _ _⟩
  case round =>
    obtain ⟨k, hk, rfl, hwr⟩ := hrel
    have WR := hide hwr
    clear hwr
    obtain ⟨wl, hwl⟩ : ∃ wl, wl = wr := ⟨_, rfl⟩
    subst hwl
    have HX := hide ((WR.out.block _ (Array.getElem?_eq_some_iff.1 HT1x.out).1).trans HT1x.out)
    have HT2 := hide (HT.out.below WR.out)
    by_cases hkk : k < 6
    · as_aux_lemma =>
        have x0 := cellsK (n := k * 11) HX.out (tb1c0 k hkk)
        have x1 := cellsK (n := k * 11 + 1) HX.out (tb1c1 k hkk)
        have x2 := cellsK (n := k * 11 + 2) HX.out (tb1c2 k hkk)
        have x3 := cellsK (n := k * 11 + 3) HX.out (tb1c3 k hkk)
        have x4 := cellsK (n := k * 11 + 4) HX.out (tb1c4 k hkk)
        have x5 := cellsK (n := k * 11 + 5) HX.out (tb1c5 k hkk)
        have x6 := cellsK (n := k * 11 + 6) HX.out (tb1c6 k hkk)
        have x7 := cellsK (n := k * 11 + 7) HX.out (tb1c7 k hkk)
        have x8 := cellsK (n := k * 11 + 8) HX.out (tb1c8 k hkk)
        have x9 := cellsK (n := k * 11 + 9) HX.out (tb1c9 k hkk)
        have x10 := cellsK (n := k * 11 + 10) HX.out (tb1c10 k hkk)
        go_upto_region 6 with fail
        have al := below_alloc wl (.cells #[.int .i64 (r1i k).op, .int .i64 (r1i k).to, .int .i64 (r1i k).a, .int .i64 (r1i k).b, .int .i64 (r1i k).c, .int .i64 (r1w k).op, .int .i64 (r1w k).to, .int .i64 (r1w k).a, .int .i64 (r1w k).b, .int .i64 (r1w k).c, .bool (r1k k)] 26)
        have XB : Hid ((wl.alloc (.cells #[.int .i64 (r1i k).op, .int .i64 (r1i k).to, .int .i64 (r1i k).a, .int .i64 (r1i k).b, .int .i64 (r1i k).c, .int .i64 (r1w k).op, .int .i64 (r1w k).to, .int .i64 (r1w k).a, .int .i64 (r1w k).b, .int .i64 (r1w k).c, .bool (r1k k)] 26)).heap[wl.heap.size]? = some (.cells #[.int .i64 (r1i k).op, .int .i64 (r1i k).to, .int .i64 (r1i k).a, .int .i64 (r1i k).b, .int .i64 (r1i k).c, .int .i64 (r1w k).op, .int .i64 (r1w k).to, .int .i64 (r1w k).a, .int .i64 (r1w k).b, .int .i64 (r1w k).c, .bool (r1k k)] 26 (0, 0))) := hide (heap_alloc_new _ _)
        have WR2 := hide (WR.out.trans (al.mono WR.out.size))
        have HT3 := hide (HT2.out.below al)
        clear al x0 x1 x2 x3 x4 x5 x6 x7 x8 x9 x10
        generalize wl.alloc (.cells #[.int .i64 (r1i k).op, .int .i64 (r1i k).to, .int .i64 (r1i k).a, .int .i64 (r1i k).b, .int .i64 (r1i k).c, .int .i64 (r1w k).op, .int .i64 (r1w k).to, .int .i64 (r1w k).a, .int .i64 (r1w k).b, .int .i64 (r1w k).c, .bool (r1k k)] 26) = wx at *
        generalize wl.heap.size = gx at *
        have y0 := cellsK (n := 0) XB.out (show _ = some (.int .i64 (r1i k).op) from rfl)
        have y1 := cellsK (n := 1) XB.out (show _ = some (.int .i64 (r1i k).to) from rfl)
        have y2 := cellsK (n := 2) XB.out (show _ = some (.int .i64 (r1i k).a) from rfl)
        have y3 := cellsK (n := 3) XB.out (show _ = some (.int .i64 (r1i k).b) from rfl)
        have y4 := cellsK (n := 4) XB.out (show _ = some (.int .i64 (r1i k).c) from rfl)
        have y5 := cellsK (n := 5) XB.out (show _ = some (.int .i64 (r1w k).op) from rfl)
        have y6 := cellsK (n := 6) XB.out (show _ = some (.int .i64 (r1w k).to) from rfl)
        have y7 := cellsK (n := 7) XB.out (show _ = some (.int .i64 (r1w k).a) from rfl)
        have y8 := cellsK (n := 8) XB.out (show _ = some (.int .i64 (r1w k).b) from rfl)
        have y9 := cellsK (n := 9) XB.out (show _ = some (.int .i64 (r1w k).c) from rfl)
        have y10 := cellsK (n := 10) XB.out (show _ = some (.bool (r1k k)) from rfl)
        go_wp2_with fail
        refine (Plain_any (r1i k) _ HT3.out).mono ?_
        rintro e wc ⟨he, hb⟩
        rw [kq1 k hkk] at he
        subst he
        replace XB := hide ((hb.block _ (Array.getElem?_eq_some_iff.1 XB.out).1).trans XB.out)
        replace WR2 := hide (WR2.out.trans (hb.mono WR2.out.size))
        clear hb y0 y1 y2 y3 y4 y5 y6 y7 y8 y9 y10
        go_upto_region 7 with fail
        have al := below_alloc wc (.cells #[.int .i64 (r1w k).op, .int .i64 (r1w k).to, .int .i64 (r1w k).a, .int .i64 (r1w k).b, .int .i64 (r1w k).c] 24)
        have IX : Hid (Box5 (wc.alloc (.cells #[.int .i64 (r1w k).op, .int .i64 (r1w k).to, .int .i64 (r1w k).a, .int .i64 (r1w k).b, .int .i64 (r1w k).c] 24)) wc.heap.size 24 (r1w k)) := hide (Box5.new wc 24 (r1w k))
        replace XB := hide ((al.block _ (Array.getElem?_eq_some_iff.1 XB.out).1).trans XB.out)
        replace WR2 := hide (WR2.out.trans (al.mono WR2.out.size))
        clear al
        generalize wc.alloc (.cells #[.int .i64 (r1w k).op, .int .i64 (r1w k).to, .int .i64 (r1w k).a, .int .i64 (r1w k).b, .int .i64 (r1w k).c] 24) = wi at *
        generalize wc.heap.size = gi at *
        have i0 := IX.out.cells.cell0
        have i1 := IX.out.cells.cell1
        have i2 := IX.out.cells.cell2
        have i3 := IX.out.cells.cell3
        have i4 := IX.out.cells.cell4
        simp only [Nat.zero_add] at i1 i2 i3 i4
        have y5 := cellsK (n := 5) XB.out (show _ = some (.int .i64 (r1w k).op) from rfl)
        have y6 := cellsK (n := 6) XB.out (show _ = some (.int .i64 (r1w k).to) from rfl)
        have y7 := cellsK (n := 7) XB.out (show _ = some (.int .i64 (r1w k).a) from rfl)
        have y8 := cellsK (n := 8) XB.out (show _ = some (.int .i64 (r1w k).b) from rfl)
        have y9 := cellsK (n := 9) XB.out (show _ = some (.int .i64 (r1w k).c) from rfl)
        have y10 := cellsK (n := 10) XB.out (show _ = some (.bool (r1k k)) from rfl)
        have hq := neq_sameK
        go_wp2
        go_roundw
        case rel => exact ⟨k + 1, by omega, by go_num, WR2.out⟩
        case measure => simp [intOf]; omega
    have ek : k = 6 := by omega
    subst ek
    replace HT := hide HT2.out
    replace HB := hide (HB.out.trans (WR.out.mono HB.out.size))
    clear HT2 HX HT1x WR hk
    obtain ⟨w99, hw99⟩ : ∃ x, x = wl := ⟨_, rfl⟩
    subst hw99
    go_wp2_with fail
    refine (in_any 5 1 0 6 _).mono ?_
    rintro e w100 ⟨rfl, hb⟩
    replace HT := hide (HT.out.below hb)
    replace HB := hide (HB.out.trans (hb.mono HB.out.size))
    clear hb
    go_wp2_with fail
    refine (in_any 6 1 1 3 _).mono ?_
    rintro e w101 ⟨rfl, hb⟩
    replace HT := hide (HT.out.below hb)
    replace HB := hide (HB.out.trans (hb.mono HB.out.size))
    clear hb
    go_wp2_with fail
    refine (in_any 7 1 0 1 _).mono ?_
    rintro e w102 ⟨rfl, hb⟩
    replace HT := hide (HT.out.below hb)
    replace HB := hide (HB.out.trans (hb.mono HB.out.size))
    clear hb
    go_wp2_with fail
    refine (in_any 5 1 0 6 _).mono ?_
    rintro e w103 ⟨rfl, hb⟩
    replace HT := hide (HT.out.below hb)
    replace HB := hide (HB.out.trans (hb.mono HB.out.size))
    clear hb
    go_wp2_with fail
    refine (in_any 6 1 1 5 _).mono ?_
    rintro e w104 ⟨rfl, hb⟩
    replace HT := hide (HT.out.below hb)
    replace HB := hide (HB.out.trans (hb.mono HB.out.size))
    clear hb
    go_wp2_with fail
    refine (in_any 5 1 0 3 _).mono ?_
    rintro e w105 ⟨rfl, hb⟩
    replace HT := hide (HT.out.below hb)
    replace HB := hide (HB.out.trans (hb.mono HB.out.size))
    clear hb
    go_wp2_with fail
    refine (in_any 6 1 1 (-6) _).mono ?_
    rintro e w106 ⟨rfl, hb⟩
    replace HT := hide (HT.out.below hb)
    replace HB := hide (HB.out.trans (hb.mono HB.out.size))
    clear hb
    go_wp2_with fail
    refine (in_any 6 1 0 (-2) _).mono ?_
    rintro e w107 ⟨rfl, hb⟩
    replace HT := hide (HT.out.below hb)
    replace HB := hide (HB.out.trans (hb.mono HB.out.size))
    clear hb
    go_wp2_with fail
    refine (in_any 6 1 0 2 _).mono ?_
    rintro e w108 ⟨rfl, hb⟩
    replace HT := hide (HT.out.below hb)
    replace HB := hide (HB.out.trans (hb.mono HB.out.size))
    clear hb
    go_wp2_with fail
    refine (in_any 2 1 1 0 _).mono ?_
    rintro e w109 ⟨rfl, hb⟩
    replace HT := hide (HT.out.below hb)
    replace HB := hide (HB.out.trans (hb.mono HB.out.size))
    clear hb
    go_wp2_with fail
    refine (in_any 8 1 0 1 _).mono ?_
    rintro e w110 ⟨rfl, hb⟩
    replace HT := hide (HT.out.below hb)
    replace HB := hide (HB.out.trans (hb.mono HB.out.size))
    clear hb
    go_wp2_with fail
    refine (in_any 7 1 1 1 _).mono ?_
    rintro e w111 ⟨rfl, hb⟩
    replace HT := hide (HT.out.below hb)
    replace HB := hide (HB.out.trans (hb.mono HB.out.size))
    clear hb
    go_wp2_with fail
    refine (in_any 1 1 0 0 _).mono ?_
    rintro e w112 ⟨rfl, hb⟩
    replace HT := hide (HT.out.below hb)
    replace HB := hide (HB.out.trans (hb.mono HB.out.size))
    clear hb
    go_wp2_with fail
    refine (in_any 2 1 0 0 _).mono ?_
    rintro e w113 ⟨rfl, hb⟩
    replace HT := hide (HT.out.below hb)
    replace HB := hide (HB.out.trans (hb.mono HB.out.size))
    clear hb
    go_wp2_with fail
    refine (in_any 2 1 1 0 _).mono ?_
    rintro e w114 ⟨rfl, hb⟩
    replace HT := hide (HT.out.below hb)
    replace HB := hide (HB.out.trans (hb.mono HB.out.size))
    clear hb
    go_wp2_with fail
    refine (in_any 1 1 0 0 _).mono ?_
    rintro e w115 ⟨rfl, hb⟩
    replace HT := hide (HT.out.below hb)
    replace HB := hide (HB.out.trans (hb.mono HB.out.size))
    clear hb
    go_wp2_with fail
    refine (in_any 7 1 0 3 _).mono ?_
    rintro e w116 ⟨rfl, hb⟩
    replace HT := hide (HT.out.below hb)
    replace HB := hide (HB.out.trans (hb.mono HB.out.size))
    clear hb
    go_wp2_with fail
    refine (in_any 8 1 1 5 _).mono ?_
    rintro e w117 ⟨rfl, hb⟩
    replace HT := hide (HT.out.below hb)
    replace HB := hide (HB.out.trans (hb.mono HB.out.size))
    clear hb
    go_wp2_with fail
    refine (in_any 8 1 0 2 _).mono ?_
    rintro e w118 ⟨rfl, hb⟩
    replace HT := hide (HT.out.below hb)
    replace HB := hide (HB.out.trans (hb.mono HB.out.size))
    clear hb
    go_wp2_with fail
    refine (in_any 5 1 0 300 _).mono ?_
    rintro e w119 ⟨rfl, hb⟩
    replace HT := hide (HT.out.below hb)
    replace HB := hide (HB.out.trans (hb.mono HB.out.size))
    clear hb
    go_wp2_with fail
    refine (in_any 5 1 1 3 _).mono ?_
    rintro e w120 ⟨rfl, hb⟩
    replace HT := hide (HT.out.below hb)
    replace HB := hide (HB.out.trans (hb.mono HB.out.size))
    clear hb
    go_upto_region 11 with fail
    have hb := below_alloc w120 (.cells #[.int .i64 5, .int .i64 1, .int .i64 0, .int .i64 0, .int .i64 6, .int .i64 6, .int .i64 1, .int .i64 1, .int .i64 0, .int .i64 3, .int .i64 7, .int .i64 1, .int .i64 0, .int .i64 0, .int .i64 1, .bool true, .int .i64 5, .int .i64 1, .int .i64 0, .int .i64 0, .int .i64 6, .int .i64 6, .int .i64 1, .int .i64 1, .int .i64 0, .int .i64 5, .int .i64 0, .int .i64 0, .int .i64 0, .int .i64 0, .int .i64 0, .bool false, .int .i64 5, .int .i64 1, .int .i64 0, .int .i64 0, .int .i64 3, .int .i64 6, .int .i64 1, .int .i64 1, .int .i64 0, .int .i64 (-6), .int .i64 6, .int .i64 1, .int .i64 0, .int .i64 0, .int .i64 (-2), .bool true, .int .i64 6, .int .i64 1, .int .i64 0, .int .i64 0, .int .i64 2, .int .i64 2, .int .i64 1, .int .i64 1, .int .i64 0, .int .i64 0, .int .i64 0, .int .i64 0, .int .i64 0, .int .i64 0, .int .i64 0, .bool false, .int .i64 8, .int .i64 1, .int .i64 0, .int .i64 0, .int .i64 1, .int .i64 7, .int .i64 1, .int .i64 1, .int .i64 0, .int .i64 1, .int .i64 0, .int .i64 0, .int .i64 0, .int .i64 0, .int .i64 0, .bool false, .int .i64 1, .int .i64 1, .int .i64 0, .int .i64 0, .int .i64 0, .int .i64 3, .int .i64 1, .int .i64 1, .int .i64 2, .int .i64 0, .int .i64 0, .int .i64 0, .int .i64 0, .int .i64 0, .int .i64 0, .bool false, .int .i64 2, .int .i64 1, .int .i64 0, .int .i64 0, .int .i64 0, .int .i64 2, .int .i64 1, .int .i64 1, .int .i64 0, .int .i64 0, .int .i64 1, .int .i64 1, .int .i64 0, .int .i64 0, .int .i64 0, .bool true, .int .i64 7, .int .i64 1, .int .i64 0, .int .i64 0, .int .i64 3, .int .i64 8, .int .i64 1, .int .i64 1, .int .i64 0, .int .i64 5, .int .i64 8, .int .i64 1, .int .i64 0, .int .i64 0, .int .i64 2, .bool true, .int .i64 5, .int .i64 1, .int .i64 0, .int .i64 0, .int .i64 300, .int .i64 5, .int .i64 1, .int .i64 1, .int .i64 0, .int .i64 3, .int .i64 0, .int .i64 0, .int .i64 0, .int .i64 0, .int .i64 0, .bool false] 30)
    have HT2x : Hid ((w120.alloc (.cells #[.int .i64 5, .int .i64 1, .int .i64 0, .int .i64 0, .int .i64 6, .int .i64 6, .int .i64 1, .int .i64 1, .int .i64 0, .int .i64 3, .int .i64 7, .int .i64 1, .int .i64 0, .int .i64 0, .int .i64 1, .bool true, .int .i64 5, .int .i64 1, .int .i64 0, .int .i64 0, .int .i64 6, .int .i64 6, .int .i64 1, .int .i64 1, .int .i64 0, .int .i64 5, .int .i64 0, .int .i64 0, .int .i64 0, .int .i64 0, .int .i64 0, .bool false, .int .i64 5, .int .i64 1, .int .i64 0, .int .i64 0, .int .i64 3, .int .i64 6, .int .i64 1, .int .i64 1, .int .i64 0, .int .i64 (-6), .int .i64 6, .int .i64 1, .int .i64 0, .int .i64 0, .int .i64 (-2), .bool true, .int .i64 6, .int .i64 1, .int .i64 0, .int .i64 0, .int .i64 2, .int .i64 2, .int .i64 1, .int .i64 1, .int .i64 0, .int .i64 0, .int .i64 0, .int .i64 0, .int .i64 0, .int .i64 0, .int .i64 0, .bool false, .int .i64 8, .int .i64 1, .int .i64 0, .int .i64 0, .int .i64 1, .int .i64 7, .int .i64 1, .int .i64 1, .int .i64 0, .int .i64 1, .int .i64 0, .int .i64 0, .int .i64 0, .int .i64 0, .int .i64 0, .bool false, .int .i64 1, .int .i64 1, .int .i64 0, .int .i64 0, .int .i64 0, .int .i64 3, .int .i64 1, .int .i64 1, .int .i64 2, .int .i64 0, .int .i64 0, .int .i64 0, .int .i64 0, .int .i64 0, .int .i64 0, .bool false, .int .i64 2, .int .i64 1, .int .i64 0, .int .i64 0, .int .i64 0, .int .i64 2, .int .i64 1, .int .i64 1, .int .i64 0, .int .i64 0, .int .i64 1, .int .i64 1, .int .i64 0, .int .i64 0, .int .i64 0, .bool true, .int .i64 7, .int .i64 1, .int .i64 0, .int .i64 0, .int .i64 3, .int .i64 8, .int .i64 1, .int .i64 1, .int .i64 0, .int .i64 5, .int .i64 8, .int .i64 1, .int .i64 0, .int .i64 0, .int .i64 2, .bool true, .int .i64 5, .int .i64 1, .int .i64 0, .int .i64 0, .int .i64 300, .int .i64 5, .int .i64 1, .int .i64 1, .int .i64 0, .int .i64 3, .int .i64 0, .int .i64 0, .int .i64 0, .int .i64 0, .int .i64 0, .bool false] 30)).heap[w120.heap.size]? = some (.cells tb2 30 (0, 0))) := hide (heap_alloc_new _ _)
    replace HT := hide (HT.out.below hb)
    replace HB := hide (HB.out.trans (hb.mono HB.out.size))
    clear hb
    generalize w120.alloc (.cells #[.int .i64 5, .int .i64 1, .int .i64 0, .int .i64 0, .int .i64 6, .int .i64 6, .int .i64 1, .int .i64 1, .int .i64 0, .int .i64 3, .int .i64 7, .int .i64 1, .int .i64 0, .int .i64 0, .int .i64 1, .bool true, .int .i64 5, .int .i64 1, .int .i64 0, .int .i64 0, .int .i64 6, .int .i64 6, .int .i64 1, .int .i64 1, .int .i64 0, .int .i64 5, .int .i64 0, .int .i64 0, .int .i64 0, .int .i64 0, .int .i64 0, .bool false, .int .i64 5, .int .i64 1, .int .i64 0, .int .i64 0, .int .i64 3, .int .i64 6, .int .i64 1, .int .i64 1, .int .i64 0, .int .i64 (-6), .int .i64 6, .int .i64 1, .int .i64 0, .int .i64 0, .int .i64 (-2), .bool true, .int .i64 6, .int .i64 1, .int .i64 0, .int .i64 0, .int .i64 2, .int .i64 2, .int .i64 1, .int .i64 1, .int .i64 0, .int .i64 0, .int .i64 0, .int .i64 0, .int .i64 0, .int .i64 0, .int .i64 0, .bool false, .int .i64 8, .int .i64 1, .int .i64 0, .int .i64 0, .int .i64 1, .int .i64 7, .int .i64 1, .int .i64 1, .int .i64 0, .int .i64 1, .int .i64 0, .int .i64 0, .int .i64 0, .int .i64 0, .int .i64 0, .bool false, .int .i64 1, .int .i64 1, .int .i64 0, .int .i64 0, .int .i64 0, .int .i64 3, .int .i64 1, .int .i64 1, .int .i64 2, .int .i64 0, .int .i64 0, .int .i64 0, .int .i64 0, .int .i64 0, .int .i64 0, .bool false, .int .i64 2, .int .i64 1, .int .i64 0, .int .i64 0, .int .i64 0, .int .i64 2, .int .i64 1, .int .i64 1, .int .i64 0, .int .i64 0, .int .i64 1, .int .i64 1, .int .i64 0, .int .i64 0, .int .i64 0, .bool true, .int .i64 7, .int .i64 1, .int .i64 0, .int .i64 0, .int .i64 3, .int .i64 8, .int .i64 1, .int .i64 1, .int .i64 0, .int .i64 5, .int .i64 8, .int .i64 1, .int .i64 0, .int .i64 0, .int .i64 2, .bool true, .int .i64 5, .int .i64 1, .int .i64 0, .int .i64 0, .int .i64 300, .int .i64 5, .int .i64 1, .int .i64 1, .int .i64 0, .int .i64 3, .int .i64 0, .int .i64 0, .int .i64 0, .int .i64 0, .int .i64 0, .bool false] 30) = w121 at *
    generalize w120.heap.size = HT2xb at *
    go_loopw [92, 6, 7, 8] (fun kv _ _ _ wr => ∃ k : Nat, k ≤ 9 ∧ kv = .int .i64 (k : Nat) ∧ Below w121.heap.size w121 wr) (fun kv _ _ _ _ => 9 - (intOf kv).toNat)
    case atStart => exact ⟨0, Nat.zero_le _, rfl, Below.refl _ _⟩
    case round =>
      obtain ⟨k, hk, rfl, hwr⟩ := hrel
      have WR := hide hwr
      clear hwr
      obtain ⟨wl, hwl⟩ : ∃ wl, wl = wr := ⟨_, rfl⟩
      subst hwl
      have HX := hide ((WR.out.block _ (Array.getElem?_eq_some_iff.1 HT2x.out).1).trans HT2x.out)
      have HT2 := hide (HT.out.below WR.out)
      by_cases hkk : k < 9
      · as_aux_lemma =>
          have x0 := cellsK (n := k * 16) HX.out (tb2c0 k hkk)
          have x1 := cellsK (n := k * 16 + 1) HX.out (tb2c1 k hkk)
          have x2 := cellsK (n := k * 16 + 2) HX.out (tb2c2 k hkk)
          have x3 := cellsK (n := k * 16 + 3) HX.out (tb2c3 k hkk)
          have x4 := cellsK (n := k * 16 + 4) HX.out (tb2c4 k hkk)
          have x5 := cellsK (n := k * 16 + 5) HX.out (tb2c5 k hkk)
          have x6 := cellsK (n := k * 16 + 6) HX.out (tb2c6 k hkk)
          have x7 := cellsK (n := k * 16 + 7) HX.out (tb2c7 k hkk)
          have x8 := cellsK (n := k * 16 + 8) HX.out (tb2c8 k hkk)
          have x9 := cellsK (n := k * 16 + 9) HX.out (tb2c9 k hkk)
          have x10 := cellsK (n := k * 16 + 10) HX.out (tb2c10 k hkk)
          have x11 := cellsK (n := k * 16 + 11) HX.out (tb2c11 k hkk)
          have x12 := cellsK (n := k * 16 + 12) HX.out (tb2c12 k hkk)
          have x13 := cellsK (n := k * 16 + 13) HX.out (tb2c13 k hkk)
          have x14 := cellsK (n := k * 16 + 14) HX.out (tb2c14 k hkk)
          have x15 := cellsK (n := k * 16 + 15) HX.out (tb2c15 k hkk)
          go_upto_region 13 with fail
          have al := below_alloc wl (.cells #[.int .i64 (r2a k).op, .int .i64 (r2a k).to, .int .i64 (r2a k).a, .int .i64 (r2a k).b, .int .i64 (r2a k).c, .int .i64 (r2b k).op, .int .i64 (r2b k).to, .int .i64 (r2b k).a, .int .i64 (r2b k).b, .int .i64 (r2b k).c, .int .i64 (r2w k).op, .int .i64 (r2w k).to, .int .i64 (r2w k).a, .int .i64 (r2w k).b, .int .i64 (r2w k).c, .bool (r2k k)] 30)
          have XB : Hid ((wl.alloc (.cells #[.int .i64 (r2a k).op, .int .i64 (r2a k).to, .int .i64 (r2a k).a, .int .i64 (r2a k).b, .int .i64 (r2a k).c, .int .i64 (r2b k).op, .int .i64 (r2b k).to, .int .i64 (r2b k).a, .int .i64 (r2b k).b, .int .i64 (r2b k).c, .int .i64 (r2w k).op, .int .i64 (r2w k).to, .int .i64 (r2w k).a, .int .i64 (r2w k).b, .int .i64 (r2w k).c, .bool (r2k k)] 30)).heap[wl.heap.size]? = some (.cells #[.int .i64 (r2a k).op, .int .i64 (r2a k).to, .int .i64 (r2a k).a, .int .i64 (r2a k).b, .int .i64 (r2a k).c, .int .i64 (r2b k).op, .int .i64 (r2b k).to, .int .i64 (r2b k).a, .int .i64 (r2b k).b, .int .i64 (r2b k).c, .int .i64 (r2w k).op, .int .i64 (r2w k).to, .int .i64 (r2w k).a, .int .i64 (r2w k).b, .int .i64 (r2w k).c, .bool (r2k k)] 30 (0, 0))) := hide (heap_alloc_new _ _)
          have WR2 := hide (WR.out.trans (al.mono WR.out.size))
          have HT3 := hide (HT2.out.below al)
          clear al x0 x1 x2 x3 x4 x5 x6 x7 x8 x9 x10 x11 x12 x13 x14 x15
          generalize wl.alloc (.cells #[.int .i64 (r2a k).op, .int .i64 (r2a k).to, .int .i64 (r2a k).a, .int .i64 (r2a k).b, .int .i64 (r2a k).c, .int .i64 (r2b k).op, .int .i64 (r2b k).to, .int .i64 (r2b k).a, .int .i64 (r2b k).b, .int .i64 (r2b k).c, .int .i64 (r2w k).op, .int .i64 (r2w k).to, .int .i64 (r2w k).a, .int .i64 (r2w k).b, .int .i64 (r2w k).c, .bool (r2k k)] 30) = wx at *
          generalize wl.heap.size = gx at *
          have y0 := cellsK (n := 0) XB.out (show _ = some (.int .i64 (r2a k).op) from rfl)
          have y1 := cellsK (n := 1) XB.out (show _ = some (.int .i64 (r2a k).to) from rfl)
          have y2 := cellsK (n := 2) XB.out (show _ = some (.int .i64 (r2a k).a) from rfl)
          have y3 := cellsK (n := 3) XB.out (show _ = some (.int .i64 (r2a k).b) from rfl)
          have y4 := cellsK (n := 4) XB.out (show _ = some (.int .i64 (r2a k).c) from rfl)
          have y5 := cellsK (n := 5) XB.out (show _ = some (.int .i64 (r2b k).op) from rfl)
          have y6 := cellsK (n := 6) XB.out (show _ = some (.int .i64 (r2b k).to) from rfl)
          have y7 := cellsK (n := 7) XB.out (show _ = some (.int .i64 (r2b k).a) from rfl)
          have y8 := cellsK (n := 8) XB.out (show _ = some (.int .i64 (r2b k).b) from rfl)
          have y9 := cellsK (n := 9) XB.out (show _ = some (.int .i64 (r2b k).c) from rfl)
          have y10 := cellsK (n := 10) XB.out (show _ = some (.int .i64 (r2w k).op) from rfl)
          have y11 := cellsK (n := 11) XB.out (show _ = some (.int .i64 (r2w k).to) from rfl)
          have y12 := cellsK (n := 12) XB.out (show _ = some (.int .i64 (r2w k).a) from rfl)
          have y13 := cellsK (n := 13) XB.out (show _ = some (.int .i64 (r2w k).b) from rfl)
          have y14 := cellsK (n := 14) XB.out (show _ = some (.int .i64 (r2w k).c) from rfl)
          have y15 := cellsK (n := 15) XB.out (show _ = some (.bool (r2k k)) from rfl)
          go_wp2_with fail
          refine (Melt_any (r2a k) (r2b k) _ HT3.out).mono ?_
          rintro e wc ⟨he, hb⟩
          rw [kq2 k hkk] at he
          subst he
          replace XB := hide ((hb.block _ (Array.getElem?_eq_some_iff.1 XB.out).1).trans XB.out)
          replace WR2 := hide (WR2.out.trans (hb.mono WR2.out.size))
          clear hb y0 y1 y2 y3 y4 y5 y6 y7 y8 y9 y10 y11 y12 y13 y14 y15
          go_upto_region 14 with fail
          have al := below_alloc wc (.cells #[.int .i64 (r2w k).op, .int .i64 (r2w k).to, .int .i64 (r2w k).a, .int .i64 (r2w k).b, .int .i64 (r2w k).c] 24)
          have IX : Hid (Box5 (wc.alloc (.cells #[.int .i64 (r2w k).op, .int .i64 (r2w k).to, .int .i64 (r2w k).a, .int .i64 (r2w k).b, .int .i64 (r2w k).c] 24)) wc.heap.size 24 (r2w k)) := hide (Box5.new wc 24 (r2w k))
          replace XB := hide ((al.block _ (Array.getElem?_eq_some_iff.1 XB.out).1).trans XB.out)
          replace WR2 := hide (WR2.out.trans (al.mono WR2.out.size))
          clear al
          generalize wc.alloc (.cells #[.int .i64 (r2w k).op, .int .i64 (r2w k).to, .int .i64 (r2w k).a, .int .i64 (r2w k).b, .int .i64 (r2w k).c] 24) = wi at *
          generalize wc.heap.size = gi at *
          have i0 := IX.out.cells.cell0
          have i1 := IX.out.cells.cell1
          have i2 := IX.out.cells.cell2
          have i3 := IX.out.cells.cell3
          have i4 := IX.out.cells.cell4
          simp only [Nat.zero_add] at i1 i2 i3 i4
          have y10 := cellsK (n := 10) XB.out (show _ = some (.int .i64 (r2w k).op) from rfl)
          have y11 := cellsK (n := 11) XB.out (show _ = some (.int .i64 (r2w k).to) from rfl)
          have y12 := cellsK (n := 12) XB.out (show _ = some (.int .i64 (r2w k).a) from rfl)
          have y13 := cellsK (n := 13) XB.out (show _ = some (.int .i64 (r2w k).b) from rfl)
          have y14 := cellsK (n := 14) XB.out (show _ = some (.int .i64 (r2w k).c) from rfl)
          have y15 := cellsK (n := 15) XB.out (show _ = some (.bool (r2k k)) from rfl)
          have hq := neq_sameK
          go_wp2
          go_roundw
          case rel => exact ⟨k + 1, by omega, by go_num, WR2.out⟩
          case measure => simp [intOf]; omega
      have ek : k = 9 := by omega
      subst ek
      replace HT := hide HT2.out
      replace HB := hide (HB.out.trans (WR.out.mono HB.out.size))
      clear HT2 HX HT2x WR hk
      go_wp2_with fail
      refine (pass_any _ ⟨0, 0, [], []⟩ _ (zeK _) HT.out).mono ?_
      rintro e wp ⟨hR, hb⟩
      unfold PassR at hR
      rw [show rightB ⟨0, 0, [], []⟩ = false from by decide, if_neg (by decide)] at hR
      subst hR
      replace HT := hide (HT.out.below hb)
      replace HB := hide (HB.out.trans (hb.mono HB.out.size))
      clear hb
      go_wp2
      go_ret
      exact ⟨by first | rfl | simp, HB.out.trans ((below_alloc _ _).mono HB.out.size)⟩
end Go.Proofs.YtgkpdeabcijokaaDoor
