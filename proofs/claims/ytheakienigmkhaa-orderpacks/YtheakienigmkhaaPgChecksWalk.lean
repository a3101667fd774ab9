/- swagelaw08.ProgChecks answers true at all programs, and turns nothing that was there. -/
import Derived.Test.YtheakienigmkhaaPgRChk
namespace Go.Proofs.Ytheakienigmkhaa
open Go.RowKit

theorem k_right {p : Pg} (hr : rightB p = true) : chkK p = 0 := by
  unfold rightB at hr
  simp only [Bool.and_eq_true, decide_eq_true_eq] at hr
  unfold chkK
  rw [if_pos hr.1, hr.2, if_neg (by omega)]
theorem ck_right {p : Pg} (hr : rightB p = true) : ckV p = .returned (.tuple #[.int .i64 0, .int .i64 0]) := by
  unfold ckV; rw [hr, k_right hr]; rfl
theorem ck_wrong {p : Pg} (hr : rightB p = false) : ckV p = .returned (.tuple #[.int .i64 (chkK p), .int .i64 80]) := by
  unfold ckV; rw [hr]; rfl
theorem rk_right {p : Pg} (hr : rightB p = true) : rkV p = .returned (.tuple #[.int .i64 0, .bool false]) := by
  unfold rkV; rw [hr, k_right hr]; rfl
theorem rk_wrong {p : Pg} (hr : rightB p = false) : rkV p = .returned (.tuple #[.int .i64 (chkK p), .bool true]) := by
  unfold rkV; rw [hr]; rfl

end Go.Proofs.Ytheakienigmkhaa
