/- Rows of numbers that are made at once and written in place; slices.Repeat of a single number. -/
import Derived.Test.YtheakienigmkhaaPgApp
import Derived.Test.YtheakienigmkhaaShelf
import Derived.Laws.CopyOwn
import Derived.Laws.BitsLemmas
namespace Go.Proofs.Ytheakienigmkhaa
open Go.RowKit Go.Shelf

/-- a row of numbers, whole -/
def IArr (w : World) (g : Nat) (l : List Int) : Prop := w.heap[g]? = some (.cells (intCells l).toArray 3 (0, 0))
section
variable {w w' : World} {g : Nat} {l : List Int}
theorem IArr.lt (h : IArr w g l) : g < w.heap.size := (Array.getElem?_eq_some_iff.1 h).1
theorem IArr.cell (h : IArr w g l) {k : Nat} (hk : k < l.length) : w.cell? ⟨g, k, none⟩ = some (.int .i64 (ot l k)) := by
  have := intCells_get l k hk
  simp [World.cell?, show w.heap[g]? = _ from h, this]
theorem IArr.free (h : IArr w g l) (k : Nat) : w.frozen? ⟨g, k, none⟩ = false := by simp [World.frozen?, show w.heap[g]? = _ from h]
theorem IArr.step (h : IArr w g l) (hb : Below w.heap.size w w') : IArr w' g l := (hb.block g h.lt).trans h
theorem IArr.under {u : World} (h : IArr u g l) {base : Nat} (hb : Below base u w) (hg : g < base) : IArr w g l := (hb.block g hg).trans h
theorem IArr.drew (h : IArr w g l) : IArr w.drew g l := h
theorem IArr.set (h : IArr w g l) (t : Nat) (v : Int) : IArr (w.setCell ⟨g, t, none⟩ (.int .i64 v)) g (l.set t v) := by
  obtain ⟨hlt, hk⟩ := Array.getElem?_eq_some_iff.1 (show w.heap[g]? = _ from h)
  show (w.heap.modify g _)[g]? = _
  rw [Array.getElem?_eq_getElem (by rw [Array.size_modify]; exact hlt), Array.getElem_modify_self, hk]
  show some (Obj.cells ((intCells l).toArray.setIfInBounds t (.int .i64 v)) 3 (0, 0)) = _
  simp [intCells, List.map_set]
theorem IArr.other (h : IArr w g l) {b o : Nat} (hne : b ≠ g) (v : Value) : IArr (w.setCell ⟨b, o, none⟩ v) g l := (Below.heap_setCell w ⟨b, o, none⟩ v g (Ne.symm hne)).trans h
theorem IArr.ints (h : IArr w g l) (hl : l.length ≤ 1000000) : IntsAt w (.slice (some ⟨g, 0, none⟩) l.length l.length) l :=
  ⟨_, _, rfl, Nat.le_refl _, by unfold maxLen; omega, fun _ => ⟨g, 0, rfl, fun i hi => by rw [Nat.zero_add]; exact h.cell hi⟩⟩
theorem IArr.own (h : IArr w g l) (hl : l.length ≤ 1000000) {base : Nat} (hb : base ≤ g) : OwnO w base (.slice (some ⟨g, 0, none⟩) l.length l.length) l :=
  ⟨by simp [intCells], .inr ⟨g, l.length, (intCells l).toArray, rfl, hb, h, Nat.le_refl _, by unfold maxLen; omega, by simp [intCells], by rw [Nat.mul_one]; exact List.take_of_length_le (by simp [intCells])⟩⟩
theorem IArr.ne_cells {b : Nat} {c : Array Value} {t : TypeId} {f : Nat × Nat} (h : IArr w g l) (hb : w.heap[b]? = some (.cells c t f)) (ht : t ≠ 3) : g ≠ b := by
  rintro rfl
  rw [show w.heap[g]? = _ from h] at hb
  simp only [Option.some.injEq, Obj.cells.injEq] at hb
  exact ht hb.2.1.symm
end
theorem made_zero (n : Nat) : madeCells #[.int .i64 0] n = (intCells (List.replicate n 0)).toArray := by
  apply Array.ext
  · simp [madeCells, intCells]
  · intro i h1 h2
    simp [madeCells, intCells, Nat.mod_one]
theorem run_makeT (n : Nat) (hn : n ≤ 1000000) (w : World) :
    (Instr.makeSlice 23 (.int .i64 n) (.int .i64 n)).run Try.prog w = .ok (.slice (some ⟨w.heap.size, 0, none⟩) n n) (w.alloc (.cells (intCells (List.replicate n 0)).toArray 3)) := by
  obtain ⟨i0, hi, hz0, hz1, hz2⟩ := info_parts info_int
  have hr := run_make (P := Try.prog) w 23 3 i0 (.int .i64 0) Try.underlying23 hi hz0 .i64 .i64 n n (by omega) (Int.le_refl _) (by rw [hz2]; omega) (by omega)
  rw [hr]
  simp only [Int.toNat_natCast, hz1, Nat.mul_one]
  rw [← made_zero]
  rfl
theorem IArr.new (w : World) (l : List Int) : IArr (w.alloc (.cells (intCells l).toArray 3)) w.heap.size l := heap_alloc_new _ _
/-- copy, as a step of a region that draws its order: nothing turns but the row -/
theorem step_copy_only {P : Program} {ops : Array Oper} {o : Oper} {a : Act} {w : World} {K : Act → World → Prop} {Q : Exit → Act → World → Prop} {E : Prop} (hgd : o.guard = none) (d s : Operand) (dT sT : TypeId)
    (ho : o.op = .call { callee := .builtin .copy, args := #[d, s], argTypes := #[dT, sT] }) (elem : TypeId) (hu : P.underlying dT = some (.slice elem)) (hsz : (P.info? elem).map (·.size) = some 1)
    (g off dLen dCap : Nat) (ad : Addr) (sLen sCap : Nat) (hd : a.eval d = .slice (some ⟨g, off, none⟩) dLen dCap) (hs : a.eval s = .slice (some ad) sLen sCap)
    (cur : List Value) (t : TypeId) (hg : w.heap[g]? = some (.cells cur.toArray t (0, 0))) (cs : List Value) (hn : cs.length = Nat.min sLen dLen)
    (hsrc : ∀ j v, cs[j]? = some v → w.cell? (ad.add j) = some v) (hfit : off + cs.length ≤ cur.length) (h1 : ∀ v ∈ cs, v.oneCell' = true) (B : Nat) (w0 : World) (hb : RowKit.Below B w0 w) (hBg : B ≤ g)
    (h : ∀ w', RowKit.Hid (w'.heap[g]? = some (.cells (splice cur off cs).toArray t (0, 0))) → (∀ k, k ≠ g → w'.heap[k]? = w.heap[k]?) → RowKit.Below B w0 w' → K (a.put o.dst (goInt cs.length)) w') :
    if Region.wanted o (yielded ops a.tmps) = true then Oper.wp P o a w K Q else E := by
  have hw : Region.wanted o (yielded ops a.tmps) = true := by simp [Region.wanted, hgd]
  rw [if_pos hw]
  have hrun := run_copy_row (P := P) w dT sT o.type elem g off dLen dCap ad sLen sCap cur.toArray t cs hu hsz hg hn hsrc (by simpa using hfit) h1
  unfold Oper.wp
  simp [execOp, ho, resolve, invoke, builtin, hd, hs, hrun, Result.andThen]
  exact h _ (show _ = _ by simpa [splice] using setRow_heap w g _ _ t _ hg) (fun k hk => setRow_other w g k _ hk) (below_setRow hb hBg _)
theorem rep_splice (v : Int) (n k c : Nat) (hk : k + c ≤ n) : splice (intCells (List.replicate k v ++ List.replicate (n - k) 0)) k (intCells (List.replicate c v)) = intCells (List.replicate (k + c) v ++ List.replicate (n - (k + c)) 0) := by
  unfold splice intCells
  simp only [List.map_append, List.map_replicate, List.length_replicate]
  rw [List.take_left' (by simp), List.drop_append, List.drop_of_length_le (by simp), List.nil_append, List.length_replicate, List.drop_replicate, ← List.append_assoc, List.replicate_append_replicate]
  congr 2
  omega
set_option maxRecDepth 100000 in
set_option maxHeartbeats 4000000 in
theorem rep_any (b off c n : Nat) (v : Int) (w : World) (hn : n ≤ 1000) (h1 : 1 ≤ n) (hc : w.cell? ⟨b, off, none⟩ = some (.int .i64 v)) :
    Calls Try.prog 52 #[.slice (some ⟨b, off, none⟩) 1 c, .int .i64 n] w fun e w' => e = .returned (.slice (some ⟨w.heap.size, 0, none⟩) n n) ∧ IArr w' w.heap.size (List.replicate n v) ∧ Below w.heap.size w w' := by
  have hm := fun w => Try.bits_Mul 1 n (by omega) (by omega) w
  rw [show ((1 : Nat) : Int) = 1 from rfl] at hm
  have hmk := run_makeT n (by omega)
  obtain ⟨i0, hi, hz0, hz1, hz2⟩ := info_parts info_int
  have HC := hide hc
  have HI := hide (show (Try.prog.info? 3).map (·.size) = some 1 by rw [hi]; simp [hz1])
  clear hi hz0 hz1 hz2
  clear hc
  go_enter Try.func52, Try.ntmps52
  go_wp2_with fail
  refine (hm _).mono ?_
  rintro e w0 ⟨rfl, rfl⟩
  have e1 : ((1 * n / 18446744073709551616 : Nat) : Int) = 0 := by omega
  have e2 : ((1 * n % 18446744073709551616 : Nat) : Int) = n := by omega
  rw [e1, e2]
  clear hm e1 e2
  go_upto_region 7 with fail
  have al := below_alloc w0 (.cells (intCells (List.replicate n 0)).toArray 3)
  have RW := hide (IArr.new w0 (List.replicate n 0))
  have CW := hide ((al.cell (World.block_lt_of_cell? _ _ HC.out)).trans HC.out)
  have HB := hide al
  clear al hmk
  generalize w0.alloc (.cells (intCells (List.replicate n 0)).toArray 3) = w1 at *
  obtain ⟨g, hgz⟩ : ∃ g, g = w0.heap.size := ⟨_, rfl⟩
  have GZ := hide hgz
  rw [← hgz] at RW HB ⊢
  clear hgz
  have hn1 : (intCells (List.replicate 1 v)).length = Nat.min 1 n := by show _ = min 1 n; rw [Nat.min_eq_left h1]; rfl
  have hpos : 0 < (intCells (List.replicate 1 v)).length → (some (⟨g, 0, none⟩ : Addr)) = some ⟨g, 0, none⟩ ∧ ∃ ad, (some (⟨b, off, none⟩ : Addr)) = some ad ∧ ∀ j u, (intCells (List.replicate 1 v))[j]? = some u → w1.cell? (ad.add j) = some u := fun _ => ⟨rfl, _, rfl, fun j u hu => by
    have hj : j = 0 := by
      have := (List.getElem?_eq_some_iff.1 hu).1
      simp [intCells] at this
      exact this
    subst hj
    have e : u = .int .i64 v := by simpa [intCells] using hu.symm
    subst e
    exact CW.out⟩
  have hfit : 0 + (intCells (List.replicate 1 v)).length ≤ (intCells (List.replicate n 0)).length := by simp [intCells]; omega
  have H1 := hide hn1
  have H2 := hide hpos
  have H3 := hide hfit
  clear hn1 hpos hfit
  go_wp2_with (refine wpList_copy_splice rfl (.tmp 31) (.tmp 32) 23 23 rfl 3 Try.underlying23 HI.out _ _ _ _ _ _ rfl rfl g 0 (intCells (List.replicate n 0)) 3 RW.out (intCells (List.replicate 1 v)) H1.out H2.out H3.out (int_one _) g w0 HB.out (Nat.le_refl _) ?_; intro w2 hg hb)
  have R2 : Hid (IArr w2 g (List.replicate 1 v ++ List.replicate (n - 1) 0)) := hide (by
    have h := hg.out
    have e := rep_splice v n 0 1 (by omega)
    simp only [List.replicate_zero, List.nil_append, Nat.sub_zero, Nat.zero_add] at e
    rw [e] at h
    exact h)
  have B2 := hide hb
  clear hg hb RW HB CW H1 H2 H3
  have hl1 : (((intCells (List.replicate 1 v)).length : Nat) : Int) = 1 := rfl
  have hl2 : (((intCells [v]).length : Nat) : Int) = 1 := rfl
  try rw [hl1]
  try rw [hl2]
  clear hl1 hl2
  go_wp2
  go_loopw [8] (fun kv wr => ∃ k : Nat, 1 ≤ k ∧ k ≤ n ∧ kv = .int .i64 k ∧ IArr wr g (List.replicate k v ++ List.replicate (n - k) 0) ∧ Below g w0 wr) (fun kv _ => n - (intOf kv).toNat)
  case atStart => exact ⟨1, Nat.le_refl _, h1, rfl, R2.out, B2.out⟩
  case round =>
    clear R2 B2
    obtain ⟨k, hk1, hk, rfl, hr, hb⟩ := hrel
    have R2 := hide hr
    have B2 := hide hb
    clear hr hb
    obtain ⟨wl, hwl⟩ : ∃ wl, wl = wr := ⟨_, rfl⟩
    subst hwl
    by_cases hlt : k < n
    · obtain ⟨m, hm⟩ : ∃ m, m = min k (n - k) := ⟨_, rfl⟩
      have HM : Hid (m ≤ k ∧ m ≤ n - k ∧ 1 ≤ m) := hide (by omega)
      have H1 : Hid ((intCells (List.replicate m v)).length = Nat.min k (n - k)) := hide (by rw [intCells_length, List.length_replicate]; exact hm)
      have H2 : Hid (0 < (intCells (List.replicate m v)).length → (some (⟨g, k, none⟩ : Addr)) = some ⟨g, k, none⟩ ∧ ∃ ad, (some (⟨g, 0, none⟩ : Addr)) = some ad ∧ ∀ j u, (intCells (List.replicate m v))[j]? = some u → wl.drew.cell? (ad.add j) = some u) := hide (fun _ => ⟨rfl, _, rfl, fun j u hu => by
        have hj : j < m := by
          have := (List.getElem?_eq_some_iff.1 hu).1
          simpa [intCells] using this
        have e : u = .int .i64 v := by simpa [intCells, hj] using hu.symm
        subst e
        have hadd : (⟨g, 0, none⟩ : Addr).add j = ⟨g, 0 + j, none⟩ := by unfold Addr.add; split <;> simp_all
        rw [hadd, Nat.zero_add]
        have hc := R2.out.cell (k := j) (by have := HM.out; simp; omega)
        have e2 : ot (List.replicate k v ++ List.replicate (n - k) 0) j = v := by have := HM.out; unfold ot; rw [List.getD_eq_getElem?_getD, List.getElem?_append_left (by simp; omega)]; simp [show j < k by omega]
        rw [e2] at hc
        exact hc⟩)
      have H3 : Hid (k + (intCells (List.replicate m v)).length ≤ (intCells (List.replicate k v ++ List.replicate (n - k) 0)).length) := hide (by have := HM.out; simp [intCells]; omega)
      clear hm
      have hnk : n ≠ k := by omega
      go_upto_region 9 with fail
      go_region_law (refine step_copy_splice rfl (.tmp 41) (.tmp 44) 23 23 rfl 3 Try.underlying23 HI.out (some ⟨g, k, none⟩) (some ⟨g, 0, none⟩) (n - k) (n - k) k n (by simp [Act.eval, Act.put]) (by simp [Act.eval, Act.put]) g k (intCells (List.replicate k v ++ List.replicate (n - k) 0)) 3 R2.out (intCells (List.replicate m v)) H1.out H2.out H3.out (int_one _) g w0 B2.out.drew (Nat.le_refl _) ?_; intro w4 hg4 hb4)
      have R4 : Hid (IArr w4 g (List.replicate (k + m) v ++ List.replicate (n - (k + m)) 0)) := hide (by
        have h := hg4.out
        rw [rep_splice v n k m (by have := HM.out; omega)] at h
        exact h)
      have B4 := hide hb4
      clear hg4 hb4 H1 H2 H3 R2 B2
      have hlm : (intCells (List.replicate m v)).length = m := by simp [intCells]
      rw [hlm]
      clear hlm
      have hwr : IntKind.i64.wrap ((k : Int) + m) = ((k + m : Nat) : Int) := by rw [IntKind.wrap_i64]; have := HM.out; omega
      simp only [Act.put, List.getElem_toArray, List.getElem_cons_zero, List.getElem_cons_succ, List.setIfInBounds_toArray, List.set_cons_succ, List.set_cons_zero, hwr]
      go_roundw
      case rel => exact ⟨_, _, _, _, _, _, _, _, _, _, _, _, _, _, ⟨k + m, by omega, by have := HM.out; omega, rfl, R4.out, B4.out⟩, rfl⟩
      case measure => have := HM.out; simp [intOf]; omega
    · have e : k = n := by omega
      subst e
      go_wp2
      go_ret
      have h := R2.out
      rw [Nat.sub_self, List.replicate_zero, List.append_nil] at h
      have gz := GZ.out
      subst gz
      exact ⟨rfl, h, B2.out⟩
end Go.Proofs.Ytheakienigmkhaa
