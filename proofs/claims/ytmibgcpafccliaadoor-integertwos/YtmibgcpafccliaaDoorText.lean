/- limb.Text answers a number's digits, as a text. -/
import Derived.Test.YtmibgcpafccliaaDoorDigits
import Derived.Laws.BytesArg
namespace Go.Proofs.YtmibgcpafccliaaDoor
open Go.RowKit Go.Shelf
attribute [local go_sem] Oper.semAt_some

theorem boxed_app {W w1 : World} {n₀ B lo T : Nat} {t e : TypeId} {size : Nat} {v v' : Value} {k m : Nat} {xs ys : List Value} {tmp : Obj}
    (hv : Boxed W B t v) (hte : t ≠ e) (hrow : W.ownsRow n₀ e size v k xs) (hn₀ : n₀ ≤ W.heap.size) (hB : B < lo) (hT : T ≤ B) (hTn : T ≤ n₀)
    (hown' : w1.ownsRow n₀ e size v' m ys) (hgrow : (W.alloc tmp).grownBy w1 v.ownBlock) :
    Boxed w1 B t v ∧ Boxed (w1.setCell ⟨B, 0, none⟩ v') B t v' ∧ (w1.setCell ⟨B, 0, none⟩ v').ownsRow n₀ e size v' m ys ∧ KeepsOthers W (w1.setCell ⟨B, 0, none⟩ v') ∧ Keeps lo n₀ W (w1.setCell ⟨B, 0, none⟩ v') ∧ Below T W (w1.setCell ⟨B, 0, none⟩ v') := by
  have hv1 : Boxed w1 B t v := (hv.alloc tmp).kept hgrow (hv.not_row hte hrow)
  have hge : ∀ j, v.ownBlock = some j → n₀ ≤ j := fun j ej => (hrow.lt j ej).1
  refine ⟨hv1, hv1.set v', hown'.kept (grownBy_setCell' w1 B v') (.inr (hv1.not_row hte hown').symm), ?_, ?_, ?_⟩
  · refine ((KeepsOthers.alloc W tmp).trans (KeepsOthers.of_grownBy hgrow fun j o ej hj => ?_)).trans (KeepsOthers.setCell _ _ _)
    rcases (hrow.alloc tmp).2 with ⟨rfl, _⟩ | ⟨g, cap, cur, rfl, _, hgb, _⟩
    · simp [Value.ownBlock] at ej
    · obtain rfl : g = j := by simpa [Value.ownBlock] using ej
      rw [hgb] at hj; cases hj; rfl
  · intro i h1 h2
    rw [Below.heap_setCell _ _ _ _ (by show i ≠ B; omega), hgrow.block i (by simp; omega) (fun e' => by have := hge i e'.symm; omega), Below.heap_alloc _ _ _ (by omega)]
  · exact (((Below.refl T W).alloc (by omega) tmp).grown hgrow (by simp; omega) (fun j ej => Nat.le_trans hTn (hge j ej))).setCell (p := ⟨B, 0, none⟩) hT v'

theorem digits_stops (n : Nat) (hn : 1 ≤ n) (bx lo hi base : Nat) (gv : Value) (gs : List Nat) (hg : ∀ x ∈ gs, x < UU) (hne : gs ≠ []) (w : World) (hO : Own w base gv gs) (hlo : lo ≤ base) (hhi : hi = w.heap.size)
    (hx1 : lo ≤ bx) (hx2 : bx < hi) (hc : w.cell? ⟨bx, 0, none⟩ = some gv) :
    SeqStopsK Fence.wide n Tryd.prog 76 #[.pointer (some ⟨bx, 0, none⟩)] (fun x : Dg => #[Value.int .i64 (x.1 : Nat)]) (Keeps lo hi) (fun ys => ys = toldD gs) (fun pre => pre <+: toldD gs) (toldD gs).length w := by
  intro l J Jx W hW _ _ hY h0
  have hN := hO.nums (fun x hx => Nat.lt_trans (hg x hx) (by decide))
  rcases hO.2 with ⟨rfl, h0'⟩ | ⟨g, cap, cur, rfl, hb, hgg, hnc, hcm, _, _⟩
  · exact absurd (List.eq_nil_of_length_eq_zero h0') hne
  · have hlt : g < w.heap.size := (Array.getElem?_eq_some_iff.1 hgg).1
    subst hhi
    refine digits1_in n hn l bx lo _ g 0 cap gs hg hne (by unfold maxLen at hcm; omega) hx1 hx2 (Nat.le_trans hlo hb) hlt J Jx hY W ((hW.cell (p := ⟨bx, 0, none⟩) hx2).trans hc) ?_ h0
    intro i hi
    rw [hW.cell (p := ⟨g, 0 + i, none⟩) hlt]
    rcases hN.cases with ⟨rfl, _⟩ | ⟨_, b, off, cap', he, _, _, _, hcc⟩
    · simp at hi
    · simp only [Value.slice.injEq, Option.some.injEq, Addr.mk.injEq, and_true, true_and] at he
      obtain ⟨⟨rfl, rfl⟩, rfl⟩ := he
      exact hcc i hi

/-- the bytes of digits -/
def byts (ds : List Nat) : List Int := ds.map fun (d : Nat) => (48 : Int) + (d : Int)
/-- a number's text -/
def txt (n : Nat) : ByteArray := strOfNums (byts (dec n))

theorem Tryd.info5 : (Tryd.prog.info? 5).map (fun i => (i.zero, i.size, i.bytes)) = some (some (.int .u8 0), 1, 1) := by kernel_rfl

/-- the cells of digits that have come -/
def bytV (pre : List Dg) : List Value := pre.map fun (x : Dg) => Value.int .u8 ((48 : Int) + (x.1 : Int))
theorem bytV_length (pre : List Dg) : (bytV pre).length = pre.length := by simp [bytV]
theorem bytV_snoc (pre : List Dg) (x : Dg) : bytV pre ++ [.int .u8 ((48 : Int) + (x.1 : Int))] = bytV (pre ++ [x]) := by simp [bytV]
theorem byts_of (pre : List Dg) : byts (pre.map (·.1)) = pre.map fun (x : Dg) => (48 : Int) + (x.1 : Int) := by simp [byts]

theorem told_len (n : Nat) : (toldD (grp n)).map (·.1) = dec n := by rw [toldD_val, told_grp]

theorem digs_length (k n : Nat) : (digs k n).length = k + 1 := by
  induction k with
  | zero => rfl
  | succ k ih => simp [digs, ih]
theorem dec_length (n : Nat) : (dec n).length = nd n + 1 := digs_length _ _
theorem dec_bound {n k : Nat} (h : n < BB ^ k) : (dec n).length ≤ 32 * k + 1 := by
  rw [dec_length]
  rcases (nd_spec n).2 with e | e
  · omega
  · have h2 : BB ^ k = 2 ^ (32 * k) := by rw [Nat.pow_mul]; rfl
    have h3 : 2 ^ nd n ≤ 10 ^ nd n := Nat.pow_le_pow_left (by decide) _
    have : nd n < 32 * k := (Nat.pow_lt_pow_iff_right (a := 2) (by decide)).1 (by omega)
    omega

set_option maxRecDepth 100000 in
set_option maxHeartbeats 2000000 in
theorem text_any (v : Value) (xs : List Nat) (w : World) (h : Nums w v xs) (b1 : xs.length ≤ 1000000000) :
    Calls Tryd.prog 22 #[v] w fun e w' => e = .returned (.string (txt (val xs))) ∧ Below w.heap.size w w' := by
  obtain ⟨i0, hi, hz0, hz1, hz2⟩ := info_parts Tryd.info5
  have HDB := hide (dec_bound (val_lt h.ok))
  refine (callsIn_wide (n := 3)).1 ?_
  refine callsIn_of_wp_marks Tryd.func22 rfl trivial ?_ rfl
  simp only [Tryd.ntmps22, List.size_toArray, List.length_cons, List.length_nil, Nat.reduceAdd, Nat.reduceSub, Array.replicate_succ, Array.replicate_zero, List.push_toArray, List.append_toArray, List.nil_append, List.cons_append]
  gi_wp2_with fail
  refine ⟨trivial, ?_⟩
  refine (callsIn_wide.2 (digits_any v xs _ (h.below (below_alloc _ _)) b1)).mono ?_
  rintro e w2 ⟨bx, gv, rfl, hx1, hx2, hcx, hO, hb2⟩
  have hsz := hb2.size
  rw [World.size_alloc] at hsz hx1 hb2
  have bT : Boxed w2 w.heap.size 76 (.slice none 0 0) := (hb2.block w.heap.size (by omega)).trans (Boxed.new w 76 (.slice none 0 0))
  have hB0 : Below w.heap.size w w2 := (below_alloc w _).trans (hb2.mono (by omega))
  have HL : Hid ((toldD (grp (val xs))).length = (dec (val xs)).length) := by show _ = _; rw [← told_len, List.length_map]
  have hlenB : (toldD (grp (val xs))).length ≤ 32000000001 := by have := HL.out; have := HDB.out; omega
  gi_wp2_with fail
  refine wpIn_rangeFunc_ownG rfl (by omega) (gf := 76) (lb := #[.pointer (some ⟨bx, 0, none⟩)]) rfl trivial (enters_of Tryd.func76 (by kernel_rfl) rfl)
    (digits_stops 2 (by omega) bx (w.heap.size + 1) w2.heap.size (w.heap.size + 1) gv (grp (val xs)) (grp_lt _) (grp_ne _) w2 (by rw [World.size_alloc] at hO; exact hO) (Nat.le_refl _) rfl hx1 hx2 hcx) Keeps.trans
    (fun W l o o' hl _ _ _ k _ h2 => by rw [World.putObj_heap_other (by omega)]) (Below.refl _ _) (fun _ => rfl)
    (fun pre W => (∃ v, Boxed W w.heap.size 76 v ∧ W.ownsRow w2.heap.size 5 1 v pre.length (bytV pre) ∧ True) ∧ Below w.heap.size w W ∧ w2.heap.size ≤ W.heap.size)
    (fun _ _ _ => False)
    (OwnFrom.and (Go.Own.from (holdsRow_own w2.heap.size w.heap.size 76 5 1 (fun pre => pre.length) (fun pre => bytV pre) (fun _ _ => True)) _) (OwnFrom.and (ownFrom_below (Nat.le_refl _) (by omega)) (fun _ _ _ _ hs hg _ => Nat.le_trans hs hg.size)))
    (fun _ _ _ _ _ hs _ _ => hs)
    ⟨⟨_, bT, World.ownsRow_nil _ _ _ _, trivial⟩, hB0, Nat.le_refl _⟩
    (fun x => { tmps := #[v, undef, .string { data := #[] }, .pointer (some ⟨w.heap.size, 0, none⟩), .int .i64 (x.1 : Nat), v, .func (.func 76) #[] #[.pointer (some ⟨bx, 0, none⟩)], .int .i64 (x.1 : Nat), undef, undef, undef, undef, undef, undef, undef, undef], defers := [] }) ?assign ?body ?done ?stop
  case assign =>
    intro l x W K hK
    gi_wp2
    exact hK
  case body =>
    rintro l pre x W ⟨⟨v, hv, hrow, _⟩, hB, hS⟩ hlt
    have hc := hv.cell
    have hx := x.2
    gi_wp2_with (gi_at_builtin; refine wpListIn_append_own _ rfl _ _ 76 rfl w2.heap.size 5 i0 (.int .u8 0) 1 1 Tryd.underlying76 hi hz0 hz1 hz2 rfl (by decide) _ _ _ rfl (hrow.alloc _) ⟨W.heap.size, 0, none⟩ 1 1 [.int .u8 ((48 : Int) + (x.1 : Int))] rfl rfl (cell_one_new _ _ _) (by simp [Value.oneCell']) (by unfold maxLen; omega) (by omega) (by simp; omega) ?_; intro v' w1 hown' hgrow _; obtain ⟨g', cap', rfl⟩ := ownsRow_succ hown'; obtain ⟨hv1, hv2, hr2, hk2, hkk2, hb2⟩ := boxed_app (lo := w.heap.size + 1) (T := w.heap.size) hv (by decide) hrow hS (by omega) (Nat.le_refl _) (by omega) hown' hgrow; have hc1 := hv1.cell; have hf1 := hv1.frozen)
    refine ⟨hk2.from _, hkk2, ⟨⟨_, hv2, ?_, trivial⟩, hB.trans hb2, ?_⟩⟩
    · rw [bytV_snoc] at hr2; simpa using hr2
    · have := hgrow.size; simp at this; simp [World.setCell]; omega
  case done =>
    rintro D ys W hD rfl ⟨⟨v, hv, hrow, _⟩, hB, hS⟩ hK
    have hne : (toldD (grp (val xs))).length ≠ 0 := by rw [HL.out, dec_length]; omega
    have hD' : w.heap.size ≤ D := by omega
    rcases hrow.2 with ⟨_, h0⟩ | ⟨g, cap, cur, rfl, _, hgg, _, _, hcs, ht⟩
    · exact absurd h0 hne
    · have hc := hv.cell
      have e1 : (toldD (grp (val xs))).map (fun (x : Dg) => (48 : Int) + (x.1 : Int)) = byts (dec (val xs)) := by rw [← byts_of, told_len]
      have hconv := run_convert_bytes_arg (P := Tryd.prog) W 76 5 Tryd.underlying76 Tryd.underlying5 g 0 (toldD (grp (val xs))).length cap (byts (dec (val xs))) (by rw [← e1, List.length_map]) (by
        intro i hi
        rw [show 0 + i = i from by omega, hrow.cellAt i (by omega), ← e1]
        simp [bytV, hi]) 9 Tryd.underlying9
      clear e1 hne
      gi_wp2
      refine ⟨by simp, .inl ⟨_, _, rfl, run_takeDeferred hK, ?_⟩⟩
      exact ⟨_, results_tmp rfl _ _ _, rfl, hB.trans (belowK_b (w := w) (Nat.le_refl _) W D _ _ hD' hK rfl rfl)⟩
  case stop =>
    rintro D c pre W _ _ h _
    exact h.elim
end Go.Proofs.YtmibgcpafccliaaDoor
