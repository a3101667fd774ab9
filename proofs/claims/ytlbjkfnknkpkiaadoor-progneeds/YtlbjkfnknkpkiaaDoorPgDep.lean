/- Depths: prog.deepest, prog.Depth; what the depth of a program is, in plain words. -/
import Derived.Test.YtlbjkfnknkpkiaaDoorPgRSame
import Derived.Test.YtlbjkfnknkpkiaaDoorPgCopy
import Derived.Test.YtlbjkfnknkpkiaaDoorPgChecksWalk
import Derived.OwnWalk
namespace Go.Proofs.YtlbjkfnknkpkiaaDoor
open Go.RowKit

/-- the greatest depth of some registers -/
def dmax (d : Int → Int) : List Int → Int
  | [] => 0
  | r :: l => max (d r) (dmax d l)
def dstep (d : Int → Int) (i : Ins) : Int → Int := fun r => if r = i.to then 1 + dmax d (asksL i) else d r
def drun (d : Int → Int) : List Ins → Int → Int
  | [] => d
  | i :: l => drun (dstep d i) l
def dep (p : Pg) : Int := dmax (drun (fun _ => 0) p.code) p.outs
theorem drun_append (l m : List Ins) : ∀ d, drun d (l ++ m) = drun (drun d l) m := by
  induction l with
  | nil => intro d; rfl
  | cons i l ih => intro d; exact ih _
/-- depths in a list -/
def dAt (L : List Int) (r : Int) : Int := ot L r.toNat
theorem dmax_congr {d e : Int → Int} {l : List Int} (h : ∀ r ∈ l, d r = e r) : dmax d l = dmax e l := by
  induction l with
  | nil => rfl
  | cons r l ih => simp only [dmax]; rw [h r (by simp), ih (fun r hr => h r (by simp [hr]))]
theorem dmax_nonneg {d : Int → Int} {l : List Int} : 0 ≤ dmax d l := by
  induction l with
  | nil => exact Int.le_refl _
  | cons r l ih => simp only [dmax]; omega
theorem dmax_le {d : Int → Int} {l : List Int} {b : Int} (hb : 0 ≤ b) (h : ∀ r ∈ l, d r ≤ b) : dmax d l ≤ b := by
  induction l with
  | nil => exact hb
  | cons r l ih => simp only [dmax]; have := h r (by simp); have := ih (fun r hr => h r (by simp [hr])); omega
theorem le_dmax {d : Int → Int} {l : List Int} {r : Int} (h : r ∈ l) : d r ≤ dmax d l := by
  induction l with
  | nil => cases h
  | cons s l ih =>
    simp only [dmax]
    rcases List.mem_cons.1 h with rfl | h
    · omega
    · have := ih h; omega
/-- the first k taken, the greatest so far -/
theorem dmax_take_succ (d : Int → Int) (l : List Int) (k : Nat) (h : k < l.length) : dmax d (l.take (k + 1)) = max (dmax d (l.take k)) (d (ot l k)) := by
  induction l generalizing k with
  | nil => simp at h
  | cons r l ih =>
    cases k with
    | zero => simp [dmax, ot]; exact Int.max_comm _ _
    | succ k =>
      have := ih k (by simpa using h)
      have e : ot (r :: l) (k + 1) = ot l k := by unfold ot; simp
      rw [List.take_succ_cons, List.take_succ_cons, e]
      simp only [dmax]
      rw [this]
      omega

set_option maxRecDepth 100000 in
set_option maxHeartbeats 4000000 in
theorem deepest_any (u v : Value) (L l : List Int) (w : World) (hu : IntsAt w u L) (hv : IntsAt w v l) (hr : ∀ k, k < l.length → 0 ≤ ot l k ∧ ot l k < L.length) :
    Calls Tryd.prog 38 #[u, v] w fun e w' => w' = w ∧ e = .returned (.int .i64 (dmax (dAt L) l)) := by
  have HU := hide hu
  have HV := hide hv
  have HR := hide hr
  clear hr
  obtain ⟨a, cap, rfl, hcap, hm, _⟩ := hu
  obtain ⟨a', cap', rfl, hcap', hm', _⟩ := hv
  unfold maxLen at hm'
  go_enter Tryd.func38, Tryd.ntmps38
  go_wp2
  go_loopw [5, 10, 7] (fun mv iv _ wr => ∃ i : Nat, i ≤ l.length ∧ iv = .int .i64 i ∧ mv = .int .i64 (dmax (dAt L) (l.take i)) ∧ wr = w) (fun _ iv _ _ => l.length - (intOf iv).toNat)
  case atStart => exact ⟨0, Nat.zero_le _, rfl, rfl, rfl⟩
  case round =>
    obtain ⟨i, hi, rfl, rfl, hwr⟩ := hrel
    obtain rfl : w = wr := hwr.symm
    clear hwr
    by_cases hlt : i < l.length
    · obtain ⟨b, off, rfl, k1⟩ := HV.out.at hlt
      obtain ⟨g1, g2⟩ := HR.out i hlt
      obtain ⟨r, hr⟩ : ∃ r, r = ot l i := ⟨_, rfl⟩
      rw [← hr] at k1 g1 g2
      have HX := hide hr
      clear hr
      obtain ⟨n, rfl⟩ : ∃ n : Nat, r = n := ⟨r.toNat, by omega⟩
      have hn : n < L.length := by omega
      obtain ⟨b', off', rfl, k2⟩ := HU.out.at hn
      obtain ⟨x, hx⟩ : ∃ x, x = ot L n := ⟨_, rfl⟩
      rw [← hx] at k2
      have HY := hide hx
      clear hx
      obtain ⟨m, hmm⟩ : ∃ m, m = dmax (dAt L) (l.take i) := ⟨_, rfl⟩
      rw [← hmm]
      have HM := hide hmm
      clear hmm
      go_wp2
      refine ⟨⟨i + 1, by omega, by go_num, ?_, trivial⟩, by simp [intOf]; omega⟩
      rw [dmax_take_succ _ _ _ hlt, ← HX.out, ← HM.out, show dAt L (n : Int) = x from by unfold dAt; rw [Int.toNat_natCast]; exact HY.out.symm]
    · have e : i = l.length := by omega
      subst e
      go_wp2
      go_ret
      exact ⟨rfl, by rw [List.take_length]; rfl⟩
end Go.Proofs.YtlbjkfnknkpkiaaDoor
