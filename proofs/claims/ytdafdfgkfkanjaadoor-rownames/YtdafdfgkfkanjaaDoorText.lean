/- limb.Text answers a number's digits, as a text. -/
import Derived.Test.YtdafdfgkfkanjaaDoorDigits
import Derived.Laws.BytesArg
namespace Go.Proofs.YtdafdfgkfkanjaaDoor
open Go.RowKit Go.Shelf
attribute [local go_sem] Oper.semAt_some

theorem boxed_app {W w1 : World} {n₀ B lo T : Nat} {t e : TypeId} {size : Nat} {v v' : Value} {k m : Nat} {xs ys : List Value} {tmp : Obj}
    (hv : Boxed W B t v) (hte : t ≠ e) (hrow : W.ownsRow n₀ e size v k xs) (hn₀ : n₀ ≤ W.heap.size) (hB : B < lo) (hT : T ≤ B) (hTn : T ≤ n₀)
    (hown' : w1.ownsRow n₀ e size v' m ys) (hgrow : (W.alloc tmp).grownBy w1 v.ownBlock) :
    Boxed w1 B t v ∧ Boxed (w1.setCell ⟨B, 0, none⟩ v') B t v' ∧ (w1.setCell ⟨B, 0, none⟩ v').ownsRow n₀ e size v' m ys ∧ KeepsOthers W (w1.setCell ⟨B, 0, none⟩ v') ∧ Keeps lo n₀ W (w1.setCell ⟨B, 0, none⟩ v') ∧ Below T W (w1.setCell ⟨B, 0, none⟩ v') := by
  have hv1 : Boxed w1 B t v := (hv.alloc tmp).kept hgrow (hv.not_row hte hrow)
  have hge : ∀ j, v.ownBlock = some j → n₀ ≤ j := fun j ej => (hrow.lt j ej).1
  refine ⟨hv1, hv1.set v', hown'.kept (grownBy_setCell' w1 B v') (.inr (hv1.not_row hte hown').symm), ?_, ?_, ?_⟩
  · refine ((KeepsOthers.alloc W tmp).trans (KeepsOthers.of_grownBy hgrow fun j o ej hj => ?_)).trans (KeepsOthers.setCell _ _ _)
    rcases (hrow.alloc tmp).2 with ⟨rfl, _⟩ | ⟨g, cap, cur, rfl, _, hgb, _⟩
    · simp [Value.ownBlock] at ej
    · obtain rfl : g = j := by simpa [Value.ownBlock] using ej
      rw [hgb] at hj; cases hj; rfl
  · intro i h1 h2
    rw [Below.heap_setCell _ _ _ _ (by show i ≠ B; omega), hgrow.block i (by simp; omega) (fun e' => by have := hge i e'.symm; omega), Below.heap_alloc _ _ _ (by omega)]
  · exact (((Below.refl T W).alloc (by omega) tmp).grown hgrow (by simp; omega) (fun j ej => Nat.le_trans hTn (hge j ej))).setCell (p := ⟨B, 0, none⟩) hT v'

theorem digits_stops (n : Nat) (hn : 1 ≤ n) (bx lo hi base : Nat) (gv : Value) (gs : List Nat) (hg : ∀ x ∈ gs, x < UU) (hne : gs ≠ []) (w : World) (hO : Own w base gv gs) (hlo : lo ≤ base) (hhi : hi = w.heap.size)
    (hx1 : lo ≤ bx) (hx2 : bx < hi) (hc : w.cell? ⟨bx, 0, none⟩ = some gv) :
    SeqStopsK Fence.wide n Tryd.prog 55 #[.pointer (some ⟨bx, 0, none⟩)] (fun x : Dg => #[Value.int .i64 (x.1 : Nat)]) (Keeps lo hi) (fun ys => ys = toldD gs) (fun pre => pre <+: toldD gs) (toldD gs).length w := by
  intro l J Jx W hW _ _ hY h0
  have hN := hO.nums (fun x hx => Nat.lt_trans (hg x hx) (by decide))
  rcases hO.2 with ⟨rfl, h0'⟩ | ⟨g, cap, cur, rfl, hb, hgg, hnc, hcm, _, _⟩
  · exact absurd (List.eq_nil_of_length_eq_zero h0') hne
  · have hlt : g < w.heap.size := (Array.getElem?_eq_some_iff.1 hgg).1
    subst hhi
    refine digits1_in n hn l bx lo _ g 0 cap gs hg hne (by unfold maxLen at hcm; omega) hx1 hx2 (Nat.le_trans hlo hb) hlt J Jx hY W ((hW.cell (p := ⟨bx, 0, none⟩) hx2).trans hc) ?_ h0
    intro i hi
    rw [hW.cell (p := ⟨g, 0 + i, none⟩) hlt]
    rcases hN.cases with ⟨rfl, _⟩ | ⟨_, b, off, cap', he, _, _, _, hcc⟩
    · simp at hi
    · simp only [Value.slice.injEq, Option.some.injEq, Addr.mk.injEq, and_true, true_and] at he
      obtain ⟨⟨rfl, rfl⟩, rfl⟩ := he
      exact hcc i hi

/-- the bytes of digits -/
def byts (ds : List Nat) : List Int := ds.map fun (d : Nat) => (48 : Int) + (d : Int)
/-- a number's text -/
def txt (n : Nat) : ByteArray := strOfNums (byts (dec n))

theorem Tryd.info5 : (Tryd.prog.info? 5).map (fun i => (i.zero, i.size, i.bytes)) = some (some (.int .u8 0), 1, 1) := by kernel_rfl

/-- the cells of digits that have come -/
def bytV (pre : List Dg) : List Value := pre.map fun (x : Dg) => Value.int .u8 ((48 : Int) + (x.1 : Int))
theorem bytV_length (pre : List Dg) : (bytV pre).length = pre.length := by simp [bytV]
theorem bytV_snoc (pre : List Dg) (x : Dg) : bytV pre ++ [.int .u8 ((48 : Int) + (x.1 : Int))] = bytV (pre ++ [x]) := by simp [bytV]
theorem byts_of (pre : List Dg) : byts (pre.map (·.1)) = pre.map fun (x : Dg) => (48 : Int) + (x.1 : Int) := by simp [byts]

theorem told_len (n : Nat) : (toldD (grp n)).map (·.1) = dec n := by rw [toldD_val, told_grp]

theorem digs_length (k n : Nat) : (digs k n).length = k + 1 := by
  induction k with
  | zero => rfl
  | succ k ih => simp [digs, ih]
theorem dec_length (n : Nat) : (dec n).length = nd n + 1 := digs_length _ _
theorem dec_bound {n k : Nat} (h : n < BB ^ k) : (dec n).length ≤ 32 * k + 1 := by
  rw [dec_length]
  rcases (nd_spec n).2 with e | e
  · omega
  · have h2 : BB ^ k = 2 ^ (32 * k) := by rw [Nat.pow_mul]; rfl
    have h3 : 2 ^ nd n ≤ 10 ^ nd n := Nat.pow_le_pow_left (by decide) _
    have : nd n < 32 * k := (Nat.pow_lt_pow_iff_right (a := 2) (by decide)).1 (by omega)
    omega

end Go.Proofs.YtdafdfgkfkanjaaDoor
