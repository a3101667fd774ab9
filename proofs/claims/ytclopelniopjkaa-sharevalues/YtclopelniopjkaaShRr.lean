/- swageref14's Reckon: the value of an instruction, and the first one with its key. -/
import Derived.Test.YtclopelniopjkaaShRb
namespace Go.Proofs.Ytclopelniopjkaa
open Go.RowKit

def Box6 (W : World) (B : Nat) (x y z u v s : Value) : Prop := W.heap[B]? = some (.cells #[x, y, z, u, v, s] 65 (0, 0))
section
variable {W W' : World} {B : Nat} {x y z u v s : Value}
theorem Box6.cell0 (h : Box6 W B x y z u v s) : W.cell? ⟨B, 0, none⟩ = some x := by simp [World.cell?, show W.heap[B]? = _ from h]
theorem Box6.cell1 (h : Box6 W B x y z u v s) : W.cell? ⟨B, 1, none⟩ = some y := by simp [World.cell?, show W.heap[B]? = _ from h]
theorem Box6.cell2 (h : Box6 W B x y z u v s) : W.cell? ⟨B, 2, none⟩ = some z := by simp [World.cell?, show W.heap[B]? = _ from h]
theorem Box6.cell3 (h : Box6 W B x y z u v s) : W.cell? ⟨B, 3, none⟩ = some u := by simp [World.cell?, show W.heap[B]? = _ from h]
theorem Box6.cell4 (h : Box6 W B x y z u v s) : W.cell? ⟨B, 4, none⟩ = some v := by simp [World.cell?, show W.heap[B]? = _ from h]
theorem Box6.cell5 (h : Box6 W B x y z u v s) : W.cell? ⟨B, 5, none⟩ = some s := by simp [World.cell?, show W.heap[B]? = _ from h]
theorem Box6.free (h : Box6 W B x y z u v s) (o : Nat) : W.frozen? ⟨B, o, none⟩ = false := by simp [World.frozen?, show W.heap[B]? = _ from h]
theorem Box6.lt (h : Box6 W B x y z u v s) : B < W.heap.size := (Array.getElem?_eq_some_iff.1 h).1
theorem Box6.step (h : Box6 W B x y z u v s) (hb : Below W.heap.size W W') : Box6 W' B x y z u v s := (hb.block B h.lt).trans h
theorem Box6.drew (h : Box6 W B x y z u v s) : Box6 W.drew B x y z u v s := h
theorem Box6.set (h : Box6 W B x y z u v s) (o : Nat) (c : Value) : (W.setCell ⟨B, o, none⟩ c).heap[B]? = some (.cells (#[x, y, z, u, v, s].setIfInBounds o c) 65 (0, 0)) := by
  obtain ⟨hlt, hk⟩ := Array.getElem?_eq_some_iff.1 h
  show (W.heap.modify B _)[B]? = _
  rw [Array.getElem?_eq_getElem (by rw [Array.size_modify]; exact hlt), Array.getElem_modify_self, hk]
  rfl
theorem Box6.set1 (h : Box6 W B x y z u v s) (c : Value) : Box6 (W.setCell ⟨B, 1, none⟩ c) B x c z u v s := h.set 1 c
theorem Box6.set2 (h : Box6 W B x y z u v s) (c : Value) : Box6 (W.setCell ⟨B, 2, none⟩ c) B x y c u v s := h.set 2 c
end
theorem Box6.other {W : World} {B C o : Nat} {x y z u v s : Value} (h : Box6 W B x y z u v s) (hne : C ≠ B) (c : Value) : Box6 (W.setCell ⟨C, o, none⟩ c) B x y z u v s := by
  show (W.heap.modify C _)[B]? = _
  rw [Array.getElem?_modify, if_neg hne]; exact h
theorem Box6.put {W : World} {B : Nat} {x y z u v s : Value} (h : Box6 W B x y z u v s) (x' y' z' u' v' s' : Value) : Box6 ((((((W.setCell ⟨B, 0, none⟩ x').setCell ⟨B, 1, none⟩ y').setCell ⟨B, 2, none⟩ z').setCell ⟨B, 3, none⟩ u').setCell ⟨B, 4, none⟩ v').setCell ⟨B, 5, none⟩ s') B x' y' z' u' v' s' := by
  have h0 : Box6 _ B x' y z u v s := h.set 0 x'
  have h1 : Box6 _ B x' y' z u v s := h0.set 1 y'
  have h2 : Box6 _ B x' y' z' u v s := h1.set 2 z'
  have h3 : Box6 _ B x' y' z' u' v s := h2.set 3 u'
  have h4 : Box6 _ B x' y' z' u' v' s := h3.set 4 v'
  exact h4.set 5 s'
theorem below_put6 {n : Nat} {w W : World} (h : Below n w W) {C : Nat} (hC : n ≤ C) (a b c d e f : Value) : Below n w ((((((W.setCell ⟨C, 0, none⟩ a).setCell ⟨C, 1, none⟩ b).setCell ⟨C, 2, none⟩ c).setCell ⟨C, 3, none⟩ d).setCell ⟨C, 4, none⟩ e).setCell ⟨C, 5, none⟩ f) :=
  (((((h.setCell (p := ⟨C, 0, none⟩) hC _).setCell (p := ⟨C, 1, none⟩) hC _).setCell (p := ⟨C, 2, none⟩) hC _).setCell (p := ⟨C, 3, none⟩) hC _).setCell (p := ⟨C, 4, none⟩) hC _).setCell (p := ⟨C, 5, none⟩) hC _
theorem Box6.new (W : World) (x y z u v s : Value) : Box6 (W.alloc (.cells #[x, y, z, u, v, s] 65)) W.heap.size x y z u v s := heap_alloc_new _ _

/-- the keys of instructions that ask one register have 0 for the other -/
def KyOk (ks : List (K4 × Int × Int)) : Prop := ∀ x ∈ ks, twoB x.1.1 = false → x.1.2.2.1 = 0
theorem keyI_ok (h : List Int) (i : Ins) : twoB (keyI h i).1 = false → (keyI h i).2.2.1 = 0 := by
  unfold keyI twoB
  intro h2
  simp only [Bool.or_eq_false_iff, decide_eq_false_iff_not] at h2
  dsimp only
  rw [if_neg h2.1, if_neg h2.2]
theorem look_at {ks : List (K4 × Int × Int)} {ky : K4} {k : Nat} (hk : k < ks.length) (e : ks[k].1 = ky) (hno : ∀ j (hj : j < ks.length), j < k → ks[j].1 ≠ ky) : look ks ky = some ks[k].2 := by
  unfold look
  have : ks.find? (fun x => x.1 == ky) = some ks[k] := by
    rw [List.find?_eq_some_iff_getElem]
    refine ⟨by simpa using e, k, hk, rfl, fun j hj => ?_⟩
    have := hno j (by omega) hj
    simpa using this
  rw [this]; rfl
theorem look_nil {ks : List (K4 × Int × Int)} {ky : K4} (hno : ∀ j (hj : j < ks.length), ks[j].1 ≠ ky) : look ks ky = none := by
  unfold look
  rw [Option.map_eq_none_iff, List.find?_eq_none]
  intro x hx
  obtain ⟨j, hj, rfl⟩ := List.getElem_of_mem hx
  simpa using hno j hj
/-- all blocks stand but the state's, and the keys' -/
structure StillR (w w' : World) (S : Nat) (r : Option Nat) : Prop where
  bel : Below 0 w w'
  keep : ∀ k, k < w.heap.size → k ≠ S → some k ≠ r → w'.heap[k]? = w.heap[k]?
theorem StillR.of_below {w w' : World} {S : Nat} {r : Option Nat} (h : Below w.heap.size w w') : StillR w w' S r := ⟨h.mono (Nat.zero_le _), fun k hk _ _ => h.block k hk⟩
theorem StillR.drew {w w' : World} {S : Nat} {r : Option Nat} (h : StillR w w' S r) : StillR w w'.drew S r := ⟨h.bel.drew, h.keep⟩
theorem StillR.setS {a w : World} {S : Nat} {r : Option Nat} (h : StillR a w S r) (o : Nat) (c : Value) : StillR a (w.setCell ⟨S, o, none⟩ c) S r :=
  ⟨h.bel.setCell (p := ⟨S, o, none⟩) (Nat.zero_le _) c, fun k hk h1 h2 => (Below.heap_setCell w ⟨S, o, none⟩ c k h1).trans (h.keep k hk h1 h2)⟩
theorem StillR.grown {a w w' : World} {S : Nat} {r : Option Nat} (h : StillR a w S r) (hg : w.grownBy w' r) : StillR a w' S r :=
  ⟨h.bel.grown hg (Nat.zero_le _) (fun _ _ => Nat.zero_le _), fun k hk h1 h2 => (hg.block k (Nat.lt_of_lt_of_le hk h.bel.size) h2).trans (h.keep k hk h1 h2)⟩
theorem StillR.below {a w : World} {S base : Nat} {r : Option Nat} (h : StillR a w S r) (hb : base ≤ a.heap.size) (h1 : base ≤ S) (h2 : ∀ k, r = some k → base ≤ k) : Below base a w :=
  ⟨h.bel.os, h.bel.tape, h.bel.output, h.bel.size, fun k hk => h.keep k (by omega) (by omega) (fun e => by have := h2 k e.symm; omega)⟩
theorem StAt.pushKeys {w w' : World} {base S : Nat} {vh vk v' : Value} {s : ShS} {l : List (K4 × Int × Int)} (h : StAt w base S vh vk s) (hg : w.grownBy w' vk.ownBlock) (ho : OwnK w' base v' l) : StAt (w'.setCell ⟨S, 1, none⟩ v') base S vh v' ⟨s.held, l, s.next⟩ := by
  have n1 := own_block_ne h.keys h.box (by decide)
  have hb : Box3 w' S _ _ _ _ := (hg.block S h.box.lt (fun e => n1 e.symm)).trans h.box
  have hk := World.ownsRow.kept h.held hg (rows_ne h.held h.keys (by decide))
  exact ⟨hb.set1 _, own_set_ne hk (own_block_ne hk hb (by decide)) _, own_set_ne ho (own_block_ne ho hb (by decide)) _, h.ge⟩
theorem StAt.setNext {w : World} {base S : Nat} {vh vk : Value} {s : ShS} (h : StAt w base S vh vk s) (x : Int) : StAt (w.setCell ⟨S, 2, none⟩ (.int .i64 x)) base S vh vk ⟨s.held, s.keys, x⟩ :=
  ⟨h.box.set2 _, own_set_ne h.held (own_block_ne h.held h.box (by decide)) _, own_set_ne h.keys (own_block_ne h.keys h.box (by decide)) _, h.ge⟩
theorem min_of {u t : Int} (h : t < u) : min u t = t := by omega
theorem max_of {u t : Int} (h : t < u) : max u t = u := by omega
theorem min_of' {u t : Int} (h : ¬ t < u) : min u t = u := by omega
theorem max_of' {u t : Int} (h : ¬ t < u) : max u t = t := by omega

def RReckR (w w' : World) (e : Ending) (base S : Nat) (vh vk : Value) (s : ShS) (n : Nat) (i : Ins) : Prop :=
  e = .returned (.tuple #[.int .i64 (s.val n i).1, .int .i64 (if i.op = 1 then -1 else (s.val n i).2)]) ∧ (∃ vk', StAt w' base S vh vk' (s.aft n i)) ∧ StillR w w' S vk.ownBlock
set_option maxRecDepth 100000 in
set_option maxHeartbeats 8000000 in
theorem rreckon_any (p : Pg) (n : Nat) (i : Ins) (w : World) (base S : Nat) (vh vk : Value) (s : ShS) (h : StAt w base S vh vk s) (hs : ShOk p n s) (hky : KyOk s.keys) (hp : rightB p = true) (hi : mayB i p.regs = true) (hn : n ≤ 16384) (hbase : base ≤ w.heap.size) :
    Calls Try.prog 11 #[.pointer (some ⟨S, 0, none⟩), .int .i64 n, .agg #[.int .i64 i.op, .int .i64 i.to, .int .i64 i.a, .int .i64 i.b, .int .i64 i.c]] w fun e w' => RReckR w w' e base S vh vk s n i := by
  have SX := hide h
  obtain ⟨x, hax⟩ := Int.eq_ofNat_of_zero_le ((may_iff _ _).1 hi).2.2.1.1
  obtain ⟨y, hby⟩ := Int.eq_ofNat_of_zero_le ((may_iff _ _).1 hi).2.2.2.1.1
  have hx : x < s.held.length := by have := ((may_iff _ _).1 hi).2.2.1; rw [hs.len]; omega
  have hy : y < s.held.length := by have := ((may_iff _ _).1 hi).2.2.2.1; rw [hs.len]; omega
  have HX := hide hx
  have HY := hide hy
  have HV : Hid (0 ≤ s.next ∧ s.next < 100000 ∧ s.keys.length ≤ 16384) := hide (by
    have h1 := hs.val x hx
    have h3 := hs.nxt
    have h4 := hs.num
    obtain ⟨p1, p2, p3, _⟩ := right_parts hp
    omega)
  have KO := hide hky
  have GB := hide hbase
  clear h hs hp hi hn hx hy hky hbase
  obtain ⟨op, to, a, b, c⟩ := i
  dsimp only at hax hby ⊢
  subst hax hby
  unfold RReckR
  obtain ⟨va, vcap, hva⟩ := OwnO.val SX.out.held
  obtain ⟨ka, kcap, hvk⟩ := own_slice SX.out.keys
  subst hva hvk
  obtain ⟨g, hg, _, _⟩ := OwnO.atI SX.out.held HX.out
  subst hg
  go_enter Try.func11, Try.ntmps11
  go_upto_region 1 with fail
  have hb := below_alloc w (.cells #[.int .i64 op, .int .i64 to, .int .i64 (x : Int), .int .i64 (y : Int), .int .i64 c] 40)
  have IX : Hid (Box5 (w.alloc (.cells #[.int .i64 op, .int .i64 to, .int .i64 (x : Int), .int .i64 (y : Int), .int .i64 c] 40)) w.heap.size 40 ⟨op, to, x, y, c⟩) := hide (Box5.new w 40 ⟨op, to, x, y, c⟩)
  replace SX := hide (SX.out.below hb)
  have HB := hide hb
  clear hb
  generalize w.alloc (.cells #[.int .i64 op, .int .i64 to, .int .i64 (x : Int), .int .i64 (y : Int), .int .i64 c] 40) = w1 at *
  obtain ⟨I, hI⟩ : ∃ I, I = w.heap.size := ⟨_, rfl⟩
  have ZI := hide hI
  rw [← hI] at IX ⊢
  clear hI
  have hx := HX.out
  have hy := HY.out
  have k0 := IX.out.cells.cell0
  have k1 := IX.out.cells.cell1
  have k2 := IX.out.cells.cell2
  have k3 := IX.out.cells.cell3
  have k4 := IX.out.cells.cell4
  simp only [Nat.zero_add] at k1 k2 k3 k4
  have c0 := SX.out.box.cell0
  have c2 := SX.out.box.cell2
  obtain ⟨_, hg0, r1, _⟩ := OwnO.atI SX.out.held HX.out
  cases hg0
  have LI := IX.out.lt
  have LS := SX.out.box.lt
  have LG : g < w1.heap.size := (World.ownsRow.lt SX.out.held g rfl).2
  by_cases h1 : op = 1
  · subst h1
    go_upto_region 2 with fail
    go_region
    go_wp2
    go_ret2
    refine ⟨?_, ⟨.slice ka s.keys.length kcap, ?_⟩, ?_⟩
    · unfold ShS.val; rw [if_pos rfl]; rfl
    · unfold ShS.aft; rw [if_pos (.inl rfl)]; exact SX.out.drew
    · exact (StillR.of_below HB.out).drew
  · have H1 := hide h1
    obtain ⟨u, hu⟩ : ∃ u, u = ot s.held x := ⟨_, rfl⟩
    rw [← hu] at r1
    have U := hide hu
    clear hu
    have R1 : Hid (∀ w', Below w1.heap.size w1 w' → w'.cell? ⟨g, x, none⟩ = some (.int .i64 u)) := hide (fun w' hb => (hb.cell (show g < w1.heap.size from LG)).trans r1)
    go_upto_region 3 with fail
    clear c0 c2 r1 k0 k1 k2 k3 k4 LI LS LG
    refine wp_calm (fun w' => Below w1.heap.size w1 w') (fun j => j != 19) 20 #[false, false, false, false, false, false, false, false, false, false, false, false, false, false, false, false, false, false, false, false] (by kernel_rfl) rfl rfl ?_
    have HF := hide ((Below.refl w1.heap.size w1).drew)
    generalize w1.drew = w1d at *
    refine Calm.takeL 20 (i := 0) (v := ?_) (a' := ?_) (l' := #[true, false, false, false, false, false, false, false, false, false, false, false, false, false, false, false, false, false, false, false]) (d := some 22) (by kernel_rfl) rfl (by kernel_rfl) (by kernel_rfl) (by kernel_rfl) (by kernel_rfl) (fun _ _ _ h => h) HF.out rfl ?_ rfl rfl ?_ ?_
    rotate_left
    · intro w' hF; clear hF; go_simp; try rfl
    rotate_left
    · simp only [Act.put]; exact rfl
    refine Calm.takeL 20 (i := 1) (v := ?_) (a' := ?_) (l' := #[true, true, false, false, false, false, false, false, false, false, false, false, false, false, false, false, false, false, false, false]) (d := some 23) (by kernel_rfl) rfl (by kernel_rfl) (by kernel_rfl) (by kernel_rfl) (by kernel_rfl) (fun _ _ _ h => h) HF.out rfl ?_ rfl rfl ?_ ?_
    rotate_left
    · intro w' hF; have c0 := (SX.out.below hF).box.cell0; have c2 := (SX.out.below hF).box.cell2; have r1 := R1.out _ hF; have k0 := (IX.out.step hF).cells.cell0; have k2 := (IX.out.step hF).cells.cell2; have k4 := (IX.out.step hF).cells.cell4; simp only [Nat.zero_add] at k2 k4; clear hF; go_simp; try rfl
    rotate_left
    · simp only [Act.put]; exact rfl
    refine Calm.takeL 20 (i := 2) (v := ?_) (a' := ?_) (l' := #[true, true, true, false, false, false, false, false, false, false, false, false, false, false, false, false, false, false, false, false]) (d := some 24) (by kernel_rfl) rfl (by kernel_rfl) (by kernel_rfl) (by kernel_rfl) (by kernel_rfl) (fun _ _ _ h => h) HF.out rfl ?_ rfl rfl ?_ ?_
    rotate_left
    · intro w' hF; clear hF; go_simp; try rfl
    rotate_left
    · simp only [Act.put]; exact rfl
    refine Calm.takeL 20 (i := 3) (v := ?_) (a' := ?_) (l' := #[true, true, true, true, false, false, false, false, false, false, false, false, false, false, false, false, false, false, false, false]) (d := some 25) (by kernel_rfl) rfl (by kernel_rfl) (by kernel_rfl) (by kernel_rfl) (by kernel_rfl) (fun _ _ _ h => h) HF.out rfl ?_ rfl rfl ?_ ?_
    rotate_left
    · intro w' hF; clear hF; go_simp; try rfl
    rotate_left
    · simp only [Act.put]; exact rfl
    refine Calm.takeL 20 (i := 4) (v := ?_) (a' := ?_) (l' := #[true, true, true, true, true, false, false, false, false, false, false, false, false, false, false, false, false, false, false, false]) (d := some 26) (by kernel_rfl) rfl (by kernel_rfl) (by kernel_rfl) (by kernel_rfl) (by kernel_rfl) (fun _ _ _ h => h) HF.out rfl ?_ rfl rfl ?_ ?_
    rotate_left
    · intro w' hF; clear hF; go_simp; try rfl
    rotate_left
    · simp only [Act.put]; exact rfl
    refine Calm.takeL 20 (i := 5) (v := ?_) (a' := ?_) (l' := #[true, true, true, true, true, true, false, false, false, false, false, false, false, false, false, false, false, false, false, false]) (d := some 27) (by kernel_rfl) rfl (by kernel_rfl) (by kernel_rfl) (by kernel_rfl) (by kernel_rfl) (fun _ _ _ h => h) HF.out rfl ?_ rfl rfl ?_ ?_
    rotate_left
    · intro w' hF; have c0 := (SX.out.below hF).box.cell0; have c2 := (SX.out.below hF).box.cell2; have r1 := R1.out _ hF; have k0 := (IX.out.step hF).cells.cell0; have k2 := (IX.out.step hF).cells.cell2; have k4 := (IX.out.step hF).cells.cell4; simp only [Nat.zero_add] at k2 k4; clear hF; go_simp; try rfl
    rotate_left
    · simp only [Act.put]; exact rfl
    refine Calm.takeL 20 (i := 6) (v := ?_) (a' := ?_) (l' := #[true, true, true, true, true, true, true, false, false, false, false, false, false, false, false, false, false, false, false, false]) (d := some 28) (by kernel_rfl) rfl (by kernel_rfl) (by kernel_rfl) (by kernel_rfl) (by kernel_rfl) (fun _ _ _ h => h) HF.out rfl ?_ rfl rfl ?_ ?_
    rotate_left
    · intro w' hF; clear hF; go_simp; try rfl
    rotate_left
    · simp only [Act.put]; exact rfl
    refine Calm.takeL 20 (i := 7) (v := ?_) (a' := ?_) (l' := #[true, true, true, true, true, true, true, true, false, false, false, false, false, false, false, false, false, false, false, false]) (d := some 29) (by kernel_rfl) rfl (by kernel_rfl) (by kernel_rfl) (by kernel_rfl) (by kernel_rfl) (fun _ _ _ h => h) HF.out rfl ?_ rfl rfl ?_ ?_
    rotate_left
    · intro w' hF; have c0 := (SX.out.below hF).box.cell0; have c2 := (SX.out.below hF).box.cell2; have r1 := R1.out _ hF; have k0 := (IX.out.step hF).cells.cell0; have k2 := (IX.out.step hF).cells.cell2; have k4 := (IX.out.step hF).cells.cell4; simp only [Nat.zero_add] at k2 k4; clear hF; go_simp; try rfl
    rotate_left
    · simp only [Act.put]; exact rfl
    refine Calm.takeL 20 (i := 8) (v := ?_) (a' := ?_) (l' := #[true, true, true, true, true, true, true, true, true, false, false, false, false, false, false, false, false, false, false, false]) (d := some 30) (by kernel_rfl) rfl (by kernel_rfl) (by kernel_rfl) (by kernel_rfl) (by kernel_rfl) (fun _ _ _ h => h) HF.out rfl ?_ rfl rfl ?_ ?_
    rotate_left
    · intro w' hF; clear hF; go_simp; try rfl
    rotate_left
    · simp only [Act.put]; exact rfl
    refine Calm.takeL 20 (i := 9) (v := ?_) (a' := ?_) (l' := #[true, true, true, true, true, true, true, true, true, true, false, false, false, false, false, false, false, false, false, false]) (d := some 31) (by kernel_rfl) rfl (by kernel_rfl) (by kernel_rfl) (by kernel_rfl) (by kernel_rfl) (fun _ _ _ h => h) HF.out rfl ?_ rfl rfl ?_ ?_
    rotate_left
    · intro w' hF; have c0 := (SX.out.below hF).box.cell0; have c2 := (SX.out.below hF).box.cell2; have r1 := R1.out _ hF; have k0 := (IX.out.step hF).cells.cell0; have k2 := (IX.out.step hF).cells.cell2; have k4 := (IX.out.step hF).cells.cell4; simp only [Nat.zero_add] at k2 k4; clear hF; go_simp; try rfl
    rotate_left
    · simp only [Act.put]; exact rfl
    refine Calm.takeL 20 (i := 10) (v := ?_) (a' := ?_) (l' := #[true, true, true, true, true, true, true, true, true, true, true, false, false, false, false, false, false, false, false, false]) (d := some 32) (by kernel_rfl) rfl (by kernel_rfl) (by kernel_rfl) (by kernel_rfl) (by kernel_rfl) (fun _ _ _ h => h) HF.out rfl ?_ rfl rfl ?_ ?_
    rotate_left
    · intro w' hF; clear hF; go_simp; try rfl
    rotate_left
    · simp only [Act.put]; exact rfl
    refine Calm.takeL 20 (i := 11) (v := ?_) (a' := ?_) (l' := #[true, true, true, true, true, true, true, true, true, true, true, true, false, false, false, false, false, false, false, false]) (d := some 33) (by kernel_rfl) rfl (by kernel_rfl) (by kernel_rfl) (by kernel_rfl) (by kernel_rfl) (fun _ _ _ h => h) HF.out rfl ?_ rfl rfl ?_ ?_
    rotate_left
    · intro w' hF; have c0 := (SX.out.below hF).box.cell0; have c2 := (SX.out.below hF).box.cell2; have r1 := R1.out _ hF; have k0 := (IX.out.step hF).cells.cell0; have k2 := (IX.out.step hF).cells.cell2; have k4 := (IX.out.step hF).cells.cell4; simp only [Nat.zero_add] at k2 k4; clear hF; go_simp; try rfl
    rotate_left
    · simp only [Act.put]; exact rfl
    refine Calm.takeL 20 (i := 12) (v := ?_) (a' := ?_) (l' := #[true, true, true, true, true, true, true, true, true, true, true, true, true, false, false, false, false, false, false, false]) (d := some 34) (by kernel_rfl) rfl (by kernel_rfl) (by kernel_rfl) (by kernel_rfl) (by kernel_rfl) (fun _ _ _ h => h) HF.out rfl ?_ rfl rfl ?_ ?_
    rotate_left
    · intro w' hF; clear hF; go_simp; try rfl
    rotate_left
    · simp only [Act.put]; exact rfl
    refine Calm.takeL 20 (i := 13) (v := ?_) (a' := ?_) (l' := #[true, true, true, true, true, true, true, true, true, true, true, true, true, true, false, false, false, false, false, false]) (d := some 35) (by kernel_rfl) rfl (by kernel_rfl) (by kernel_rfl) (by kernel_rfl) (by kernel_rfl) (fun _ _ _ h => h) HF.out rfl ?_ rfl rfl ?_ ?_
    rotate_left
    · intro w' hF; clear hF; go_simp; try rfl
    rotate_left
    · simp only [Act.put]; exact rfl
    refine Calm.takeL 20 (i := 14) (v := ?_) (a' := ?_) (l' := #[true, true, true, true, true, true, true, true, true, true, true, true, true, true, true, false, false, false, false, false]) (d := some 36) (by kernel_rfl) rfl (by kernel_rfl) (by kernel_rfl) (by kernel_rfl) (by kernel_rfl) (fun _ _ _ h => h) HF.out rfl ?_ rfl rfl ?_ ?_
    rotate_left
    · intro w' hF; clear hF; go_simp; try rfl
    rotate_left
    · simp only [Act.put]; exact rfl
    refine Calm.takeL 20 (i := 15) (v := ?_) (a' := ?_) (l' := #[true, true, true, true, true, true, true, true, true, true, true, true, true, true, true, true, false, false, false, false]) (d := some 37) (by kernel_rfl) rfl (by kernel_rfl) (by kernel_rfl) (by kernel_rfl) (by kernel_rfl) (fun _ _ _ h => h) HF.out rfl ?_ rfl rfl ?_ ?_
    rotate_left
    · intro w' hF; clear hF; go_simp; try rfl
    rotate_left
    · simp only [Act.put]; exact rfl
    refine Calm.takeL 20 (i := 16) (v := ?_) (a' := ?_) (l' := #[true, true, true, true, true, true, true, true, true, true, true, true, true, true, true, true, true, false, false, false]) (d := some 38) (by kernel_rfl) rfl (by kernel_rfl) (by kernel_rfl) (by kernel_rfl) (by kernel_rfl) (fun _ _ _ h => h) HF.out rfl ?_ rfl rfl ?_ ?_
    rotate_left
    · intro w' hF; have c0 := (SX.out.below hF).box.cell0; have c2 := (SX.out.below hF).box.cell2; have r1 := R1.out _ hF; have k0 := (IX.out.step hF).cells.cell0; have k2 := (IX.out.step hF).cells.cell2; have k4 := (IX.out.step hF).cells.cell4; simp only [Nat.zero_add] at k2 k4; clear hF; go_simp; try rfl
    rotate_left
    · simp only [Act.put]; exact rfl
    refine Calm.takeL 20 (i := 17) (v := ?_) (a' := ?_) (l' := #[true, true, true, true, true, true, true, true, true, true, true, true, true, true, true, true, true, true, false, false]) (d := some 39) (by kernel_rfl) rfl (by kernel_rfl) (by kernel_rfl) (by kernel_rfl) (by kernel_rfl) (fun _ _ _ h => h) HF.out rfl ?_ rfl rfl ?_ ?_
    rotate_left
    · intro w' hF; clear hF; go_simp; try rfl
    rotate_left
    · simp only [Act.put]; exact rfl
    refine Calm.one (i := 18) (l' := #[true, true, true, true, true, true, true, true, true, true, true, true, true, true, true, true, true, true, true, false]) (by kernel_rfl) rfl rfl rfl fun K hK => ?_
    go_simp
    have al := below_alloc w1d (.cells #[.int .i64 0, .int .i64 0, .int .i64 0, .int .i64 0, .int .i64 0, .int .i64 0] 65)
    have HF' := hide (HF.out.trans ((al).mono HF.out.size))
    have BXK := hide (Box6.new w1d (.int .i64 0) (.int .i64 0) (.int .i64 0) (.int .i64 0) (.int .i64 0) (.int .i64 0))
    have GEK := hide (HF.out.size)
    refine hK _ _ (fun _ => HF'.out) ?_
    clear hK K HF al
    have HF := hide HF'.out
    clear HF'
    generalize w1d.alloc (.cells #[.int .i64 0, .int .i64 0, .int .i64 0, .int .i64 0, .int .i64 0, .int .i64 0] 65) = wzK at *
    generalize w1d.heap.size = gK at *
    refine Calm.one (i := 19) (l' := #[true, true, true, true, true, true, true, true, true, true, true, true, true, true, true, true, true, true, true, true]) (by kernel_rfl) rfl rfl rfl fun K hK => ?_
    have z0 := BXK.out.cell0
    have z1 := BXK.out.cell1
    have z2 := BXK.out.cell2
    have z3 := BXK.out.cell3
    have z4 := BXK.out.cell4
    have z5 := BXK.out.cell5
    have y0 := BXK.out.free 0
    have y1 := BXK.out.free 1
    have y2 := BXK.out.free 2
    have y3 := BXK.out.free 3
    have y4 := BXK.out.free 4
    have y5 := BXK.out.free 5
    go_simp
    refine hK _ _ (fun h => absurd h (by decide)) ?_
    clear hK K
    refine Calm.done (by kernel_rfl) ?_
    clear z0 z1 z2 z3 z4 z5 y0 y1 y2 y3 y4 y5
    have KX := hide (BXK.out.put (.int .i64 op) (.int .i64 u) (.int .i64 (-1)) (.int .i64 c) (.int .i64 (n : Int)) (.int .i64 s.next))
    have W1 := hide (below_put6 HF.out GEK.out (.int .i64 op) (.int .i64 u) (.int .i64 (-1)) (.int .i64 c) (.int .i64 (n : Int)) (.int .i64 s.next))
    obtain ⟨Kb, hK⟩ : ∃ Kb, Kb = gK := ⟨_, rfl⟩
    have ZK : Hid (w1.heap.size ≤ Kb) := hide (by rw [hK]; exact GEK.out)
    generalize ((((((wzK.setCell ⟨gK, 0, none⟩ (.int .i64 op)).setCell ⟨gK, 1, none⟩ (.int .i64 u)).setCell ⟨gK, 2, none⟩ (.int .i64 (-1))).setCell ⟨gK, 3, none⟩ (.int .i64 c)).setCell ⟨gK, 4, none⟩ (.int .i64 (n : Int))).setCell ⟨gK, 5, none⟩ (.int .i64 s.next)) = w2 at *
    subst hK
    clear GEK
    have LI : I < Kb := Nat.lt_of_lt_of_le IX.out.lt ZK.out
    have LS : S < Kb := Nat.lt_of_lt_of_le SX.out.box.lt ZK.out
    have LG : g < Kb := Nat.lt_of_lt_of_le (World.ownsRow.lt SX.out.held g rfl).2 ZK.out
    clear BXK HF R1
    obtain ⟨t, ht⟩ : ∃ t, t = ot s.held y := ⟨_, rfl⟩
    have T := hide ht
    clear ht
    go_upto_region 4 with fail
    go_cut [47] from 40 (fun pb wx => pb = .bool (twoB op) ∧ wx = w2)
    case first =>
      have k0 := (IX.out.step W1.out).cells.cell0
      by_cases h3 : op = 3
      · subst h3
        go_wp2
        go_meet
        case rel => exact ⟨rfl, rfl⟩
      · by_cases h4 : op = 4
        · subst h4
          go_wp2
          go_meet
          case rel => exact ⟨rfl, rfl⟩
        · go_wp2
          go_meet
          case rel => exact ⟨by unfold twoB; simp [h3, h4], rfl⟩
    case rest =>
      obtain ⟨rfl, hwc⟩ := hcut
      subst hwc
      go_upto_if 47 with fail
      go_cut [8, 47] from 48 (fun pk pb wx => pk = .pointer (some ⟨Kb, 0, none⟩) ∧ Below w1.heap.size w1 wx ∧ Box6 wx Kb (.int .i64 op) (.int .i64 u) (.int .i64 (if twoB op = true then t else -1)) (.int .i64 c) (.int .i64 (n : Int)) (.int .i64 s.next))
      case first =>
        cases htw : twoB op with
        | true =>
          have k0 := (IX.out.step W1.out).cells.cell0
          have k3 := (IX.out.step W1.out).cells.cell3
          simp only [Nat.zero_add] at k3
          have c0 := (SX.out.below W1.out).box.cell0
          obtain ⟨_, hg0, r1, _⟩ := OwnO.atI (SX.out.below W1.out).held HY.out
          cases hg0
          rw [← T.out] at r1
          have q2 := KX.out.cell2
          have qf := KX.out.free 2
          have NKI : Kb ≠ I := by omega
          have NKS : Kb ≠ S := by omega
          have NKG : Kb ≠ g := by omega
          go_upto_region 5 with fail
          go_region
          go_wp2
          go_meet
          case rel =>
            refine ⟨rfl, (W1.out.setCell (p := ⟨Kb, 2, none⟩) (by show _ ≤ Kb; exact ZK.out) _).drew, ?_⟩
            rw [htw, if_pos rfl]
            exact (KX.out.set2 _).drew
        | false =>
          go_wp2
          go_meet
          case rel =>
            refine ⟨rfl, W1.out, ?_⟩
            rw [htw, if_neg (by decide)]
            exact KX.out
      case rest =>
        obtain ⟨rfl, hb1, hk1⟩ := hcut
        replace W1 := hide hb1
        replace KX := hide hk1
        clear hb1 hk1
        generalize hwc : wc = w3 at *
        clear hwc
        have k0 := (IX.out.step W1.out).cells.cell0
        go_upto_region 6 with fail
        go_cut [66] from 57 (fun pb wx => pb = .bool (decide (op = 3) && decide (t < u)) ∧ wx = w3)
        case first =>
          by_cases h3 : op = 3
          · subst h3
            rw [show twoB 3 = true from rfl, if_pos rfl] at KX
            have q1 := KX.out.cell1
            have q2 := KX.out.cell2
            by_cases hgt : t < u
            · go_wp2
              go_meet
              case rel => exact ⟨by simp [hgt], rfl⟩
            · have hgt' : u ≤ t := by omega
              go_wp2
              go_meet
              case rel => exact ⟨by simp [hgt], rfl⟩
          · go_wp2
            go_meet
            case rel => exact ⟨by simp [h3], rfl⟩
        case rest =>
          obtain ⟨rfl, hwc⟩ := hcut
          subst hwc
          go_upto_if 66 with fail
          go_cut [8, 66] from 67 (fun pk pb wx => pk = .pointer (some ⟨Kb, 0, none⟩) ∧ Below w1.heap.size w1 wx ∧ Box6 wx Kb (.int .i64 op) (.int .i64 (if op = 3 then min u t else u)) (.int .i64 (if op = 3 then max u t else if op = 4 then t else -1)) (.int .i64 c) (.int .i64 (n : Int)) (.int .i64 s.next))
          case first =>
            by_cases h3 : op = 3
            · subst h3
              rw [show twoB 3 = true from rfl, if_pos rfl] at KX
              have q1 := KX.out.cell1
              have q2 := KX.out.cell2
              have f1 := KX.out.free 1
              have f2 := KX.out.free 2
              by_cases hgt : t < u
              · rw [show (decide ((3 : Int) = 3) && decide (t < u)) = true by simp [hgt]]
                go_wp2
                go_meet
                case rel =>
                  refine ⟨rfl, (W1.out.setCell (p := ⟨Kb, 1, none⟩) (by show _ ≤ Kb; exact ZK.out) _).setCell (p := ⟨Kb, 2, none⟩) (by show _ ≤ Kb; exact ZK.out) _, ?_⟩
                  rw [if_pos trivial, if_pos trivial, min_of hgt, max_of hgt]
                  exact (KX.out.set1 _).set2 _
              · rw [show (decide ((3 : Int) = 3) && decide (t < u)) = false by simp [hgt]]
                go_wp2
                go_meet
                case rel =>
                  refine ⟨rfl, W1.out, ?_⟩
                  rw [if_pos trivial, if_pos trivial, min_of' (by omega), max_of' (by omega)]
                  exact KX.out
            · rw [show (decide (op = 3) && decide (t < u)) = false by simp [h3]]
              go_wp2
              go_meet
              case rel =>
                refine ⟨rfl, W1.out, ?_⟩
                rw [if_neg h3, if_neg h3]
                have e : (if twoB op = true then t else -1) = (if op = 4 then t else -1) := by unfold twoB; simp [h3]
                rw [← e]
                exact KX.out
          case rest =>
            obtain ⟨rfl, hb1, hk1⟩ := hcut
            replace W1 := hide hb1
            replace KX := hide hk1
            clear hb1 hk1 k0
            generalize hwc : wc = w4 at *
            clear hwc
            obtain ⟨a2, ha2⟩ : ∃ a2, a2 = (if op = 3 then min u t else u) := ⟨_, rfl⟩
            obtain ⟨a3, ha3⟩ : ∃ a3, a3 = (if op = 3 then max u t else if op = 4 then t else -1) := ⟨_, rfl⟩
            obtain ⟨b2, hb2⟩ : ∃ b2, b2 = (if op = 3 then max u t else if op = 4 then t else 0) := ⟨_, rfl⟩
            rw [← ha2, ← ha3] at KX
            have KY : Hid (keyI s.held ⟨op, to, x, y, c⟩ = (op, a2, b2, c)) := hide (by rw [ha2, hb2, U.out, T.out]; unfold keyI; rfl)
            have A3 : Hid (a3 = if twoB op = true then b2 else -1) := hide (by rw [ha3, hb2]; unfold twoB; by_cases h3 : op = 3; (simp [h3]); by_cases h4 : op = 4; (simp [h4]); (simp [h3, h4]))
            have B0 : Hid (twoB op = false → b2 = 0) := hide (fun h2 => by have := keyI_ok s.held ⟨op, to, x, y, c⟩; rw [KY.out] at this; exact this h2)
            have KN : Hid (∀ b, Value.ownBlock (.slice ka s.keys.length kcap) = some b → b ≠ Kb) := hide (fun b hb => by have := (World.ownsRow.lt SX.out.keys b hb).2; have := ZK.out; omega)
            clear ha2 ha3 hb2 U T hx hy
            have c1 := (SX.out.below W1.out).box.cell1
            go_wp2
            clear c1
            go_loopw [9, 10] (fun kv _ wr => ∃ k : Nat, k ≤ s.keys.length ∧ kv = .int .i64 k ∧ Below w1.heap.size w1 wr ∧ Box6 wr Kb (.int .i64 op) (.int .i64 a2) (.int .i64 a3) (.int .i64 c) (.int .i64 (n : Int)) (.int .i64 s.next) ∧ ∀ j (hj : j < s.keys.length), j < k → s.keys[j].1 ≠ (op, a2, b2, c)) (fun kv _ _ => s.keys.length - (intOf kv).toNat)
            case atStart => exact ⟨0, Nat.zero_le _, rfl, W1.out, KX.out, fun j _ hj => absurd hj (Nat.not_lt_zero _)⟩
            case round =>
              clear W1 KX
              obtain ⟨k, hk, rfl, hb, hkx, hno⟩ := hrel
              have W1 := hide hb
              have KX := hide hkx
              have NO := hide hno
              clear hb hkx hno
              obtain ⟨wl, hwl⟩ : ∃ wl, wl = wr := ⟨_, rfl⟩
              subst hwl
              have c1 := (SX.out.below W1.out).box.cell1
              have hkl := HV.out.2.2
              by_cases hlt : k < s.keys.length
              · obtain ⟨g', rfl, hcells⟩ := OwnK.at (SX.out.below W1.out).keys hlt
                obtain ⟨⟨⟨q1, q2, q3, q4⟩, vv, ff⟩, hq⟩ : ∃ z, z = s.keys[k] := ⟨_, rfl⟩
                rw [← hq] at hcells
                have d0 := hcells 0 _ rfl
                have d1 := hcells 1 _ rfl
                have d2 := hcells 2 _ rfl
                have d3 := hcells 3 _ rfl
                have d4 := hcells 4 _ rfl
                have d5 := hcells 5 _ rfl
                dsimp only [Nat.add_zero] at d0 d1 d2 d3 d4 d5
                have HQ := hide hq
                clear hq hcells
                have Q3 : Hid (q1 = op → ((if twoB q1 = true then q3 else -1) = a3 ↔ q3 = b2)) := hide (fun e => by
                  have h1 := KO.out s.keys[k] (List.getElem_mem hlt)
                  rw [← HQ.out] at h1
                  rw [A3.out, e]
                  dsimp only at h1
                  rw [e] at h1
                  cases h2 : twoB op with
                  | true => rw [if_pos rfl, if_pos rfl]
                  | false => rw [if_neg (by decide), if_neg (by decide), h1 h2, B0.out h2]; simp)
                obtain ⟨q3', hq3⟩ : ∃ q3', q3' = (if twoB q1 = true then q3 else -1) := ⟨_, rfl⟩
                rw [← hq3] at Q3 d2
                clear hq3
                have KN0 := KX.out.cell0
                have KN1 := KX.out.cell1
                have KN2 := KX.out.cell2
                have KN3 := KX.out.cell3
                have LK := KX.out.lt
                have OB : ∀ z0 z1 z2 z3 z4 z5, Below w1.heap.size w1 (wl.alloc (.cells #[z0, z1, z2, z3, z4, z5] 65)) ∧ Box6 (wl.alloc (.cells #[z0, z1, z2, z3, z4, z5] 65)) Kb (.int .i64 op) (.int .i64 a2) (.int .i64 a3) (.int .i64 c) (.int .i64 (n : Int)) (.int .i64 s.next) := fun z0 z1 z2 z3 z4 z5 => ⟨W1.out.trans ((below_alloc _ _).mono W1.out.size), KX.out.step (below_alloc _ _)⟩
                have OBH := hide OB
                clear OB
                by_cases e1 : q1 = op
                · have hb1 : (q1 == op) = true := by simpa using e1
                  have E1 := hide e1
                  clear e1
                  by_cases e2 : q2 = a2
                  · have hb2 : (q2 == a2) = true := by simpa using e2
                    have E2 := hide e2
                    clear e2
                    by_cases e3 : q3' = a3
                    · have hb3 : (q3' == a3) = true := by simpa using e3
                      have E3 := hide e3
                      clear e3
                      by_cases e4 : q4 = c
                      · have hb4 : (q4 == c) = true := by simpa using e4
                        have E4 := hide e4
                        clear e4
                        have HF : Hid (look s.keys (op, a2, b2, c) = some (vv, ff)) := hide (by
                          have e : s.keys[k].1 = (op, a2, b2, c) := by rw [← HQ.out]; rw [(Q3.out E1.out).1 E3.out, E1.out, E2.out, E4.out]
                          rw [look_at hlt e NO.out, ← HQ.out])
                        go_upto_region 13 with fail
                        go_region
                        go_wp2
                        go_ret2
                        have hv : ShS.val s n ⟨op, to, x, y, c⟩ = (vv, ff) := by unfold ShS.val; rw [if_neg H1.out, KY.out, HF.out]; rfl
                        refine ⟨?_, ⟨.slice (some ⟨g', 0, none⟩) s.keys.length kcap, ?_⟩, ?_⟩
                        · rw [hv]
                          first | rfl | (dsimp only; rw [if_neg H1.out]; rfl)
                        · unfold ShS.aft
                          rw [if_pos (.inr (by rw [KY.out, HF.out]; rfl))]
                          exact (SX.out.below (OBH.out _ _ _ _ _ _).1).drew
                        · exact (StillR.of_below (HB.out.trans ((OBH.out _ _ _ _ _ _).1.mono HB.out.size))).drew
                      · have NE : Hid (¬ (q1 = op ∧ q2 = a2 ∧ q3 = b2 ∧ q4 = c)) := hide (by intro h; exact e4 h.2.2.2)
                        have hbe : (q4 == c) = false := by simpa using e4
                        clear e4
                        go_wp2
                        go_roundw
                        case rel =>
                          refine ⟨k + 1, by omega, by go_num, (OBH.out _ _ _ _ _ _).1, (OBH.out _ _ _ _ _ _).2, fun j hj hjk => ?_⟩
                          rcases Nat.lt_succ_iff_lt_or_eq.1 hjk with l | rfl
                          · exact NO.out j hj l
                          · intro e
                            rw [← HQ.out] at e
                            simp only [Prod.mk.injEq] at e
                            exact NE.out e
                        case measure => simp [intOf]; omega
                    · have NE : Hid (¬ (q1 = op ∧ q2 = a2 ∧ q3 = b2 ∧ q4 = c)) := hide (by intro h; exact e3 ((Q3.out E1.out).2 h.2.2.1))
                      have hbe : (q3' == a3) = false := by simpa using e3
                      clear e3
                      go_wp2
                      go_roundw
                      case rel =>
                        refine ⟨k + 1, by omega, by go_num, (OBH.out _ _ _ _ _ _).1, (OBH.out _ _ _ _ _ _).2, fun j hj hjk => ?_⟩
                        rcases Nat.lt_succ_iff_lt_or_eq.1 hjk with l | rfl
                        · exact NO.out j hj l
                        · intro e
                          rw [← HQ.out] at e
                          simp only [Prod.mk.injEq] at e
                          exact NE.out e
                      case measure => simp [intOf]; omega
                  · have NE : Hid (¬ (q1 = op ∧ q2 = a2 ∧ q3 = b2 ∧ q4 = c)) := hide (by intro h; exact e2 h.2.1)
                    have hbe : (q2 == a2) = false := by simpa using e2
                    clear e2
                    go_wp2
                    go_roundw
                    case rel =>
                      refine ⟨k + 1, by omega, by go_num, (OBH.out _ _ _ _ _ _).1, (OBH.out _ _ _ _ _ _).2, fun j hj hjk => ?_⟩
                      rcases Nat.lt_succ_iff_lt_or_eq.1 hjk with l | rfl
                      · exact NO.out j hj l
                      · intro e
                        rw [← HQ.out] at e
                        simp only [Prod.mk.injEq] at e
                        exact NE.out e
                    case measure => simp [intOf]; omega
                · have NE : Hid (¬ (q1 = op ∧ q2 = a2 ∧ q3 = b2 ∧ q4 = c)) := hide (by intro h; exact e1 h.1)
                  have hbe : (q1 == op) = false := by simpa using e1
                  clear e1
                  go_wp2
                  go_roundw
                  case rel =>
                    refine ⟨k + 1, by omega, by go_num, (OBH.out _ _ _ _ _ _).1, (OBH.out _ _ _ _ _ _).2, fun j hj hjk => ?_⟩
                    rcases Nat.lt_succ_iff_lt_or_eq.1 hjk with l | rfl
                    · exact NO.out j hj l
                    · intro e
                      rw [← HQ.out] at e
                      simp only [Prod.mk.injEq] at e
                      exact NE.out e
                  case measure => simp [intOf]; omega
              · have e : k = s.keys.length := by omega
                have HF0 : Hid (look s.keys (op, a2, b2, c) = none) := hide (look_nil fun j hj => NO.out j hj (by omega))
                clear NO e
                go_upto_region 14 with fail
                clear c1
                have SY := hide (SX.out.below W1.out).drew
                have GW := hide (Nat.le_trans GB.out HB.out.size)
                have WY := hide W1.out.drew
                have WB := hide (W1.out.mono (show base ≤ w1.heap.size from Nat.le_trans GB.out HB.out.size))
                refine wp_calm (fun w' => Below base w1 w' ∧ Box3 w' S 43 (.slice (some ⟨g, 0, none⟩) s.held.length vcap) (.slice ka s.keys.length kcap) (.int .i64 s.next) ∧ Box6 w' Kb (.int .i64 op) (.int .i64 a2) (.int .i64 a3) (.int .i64 c) (.int .i64 (n : Int)) (.int .i64 s.next)) (fun j => j != 10) 11 #[false, false, false, false, false, false, false, false, false, false, false] (by kernel_rfl) rfl rfl ?_
                have HF := hide (And.intro (WB.out.drew) (And.intro ((SX.out.below W1.out).box.drew) (KX.out.drew)))
                generalize wl.drew = wld at *
                refine Calm.takeL 11 (i := 0) (v := ?_) (a' := ?_) (l' := #[true, false, false, false, false, false, false, false, false, false, false]) (d := some 119) (by kernel_rfl) rfl (by kernel_rfl) (by kernel_rfl) (by kernel_rfl) (by kernel_rfl) (fun _ _ _ h => h) HF.out rfl ?_ rfl rfl ?_ ?_
                rotate_left
                · intro w' hF; clear hF; go_simp; try rfl
                rotate_left
                · simp only [Act.put]; exact rfl
                refine Calm.takeL 11 (i := 1) (v := ?_) (a' := ?_) (l' := #[true, true, false, false, false, false, false, false, false, false, false]) (d := some 120) (by kernel_rfl) rfl (by kernel_rfl) (by kernel_rfl) (by kernel_rfl) (by kernel_rfl) (fun _ _ _ h => h) HF.out rfl ?_ rfl rfl ?_ ?_
                rotate_left
                · intro w' hF; clear hF; go_simp; try rfl
                rotate_left
                · simp only [Act.put]; exact rfl
                refine Calm.takeL 11 (i := 2) (v := ?_) (a' := ?_) (l' := #[true, true, true, false, false, false, false, false, false, false, false]) (d := some 121) (by kernel_rfl) rfl (by kernel_rfl) (by kernel_rfl) (by kernel_rfl) (by kernel_rfl) (fun _ _ _ h => h) HF.out rfl ?_ rfl rfl ?_ ?_
                rotate_left
                · intro w' hF; clear hF; go_simp; try rfl
                rotate_left
                · simp only [Act.put]; exact rfl
                refine Calm.takeL 11 (i := 3) (v := ?_) (a' := ?_) (l' := #[true, true, true, true, false, false, false, false, false, false, false]) (d := some 122) (by kernel_rfl) rfl (by kernel_rfl) (by kernel_rfl) (by kernel_rfl) (by kernel_rfl) (fun _ _ _ h => h) HF.out rfl ?_ rfl rfl ?_ ?_
                rotate_left
                · intro w' hF; clear hF; go_simp; try rfl
                rotate_left
                · simp only [Act.put]; exact rfl
                refine Calm.takeL 11 (i := 4) (v := ?_) (a' := ?_) (l' := #[true, true, true, true, true, false, false, false, false, false, false]) (d := some 123) (by kernel_rfl) rfl (by kernel_rfl) (by kernel_rfl) (by kernel_rfl) (by kernel_rfl) (fun _ _ _ h => h) HF.out rfl ?_ rfl rfl ?_ ?_
                rotate_left
                · intro w' hF; have e1 := hF.2.1.cell1; have p0 := hF.2.2.cell0; have p1 := hF.2.2.cell1; have p2 := hF.2.2.cell2; have p3 := hF.2.2.cell3; have p4 := hF.2.2.cell4; have p5 := hF.2.2.cell5; clear hF; go_simp; try rfl
                rotate_left
                · simp only [Act.put]; exact rfl
                refine Calm.takeL 11 (i := 5) (v := ?_) (a' := ?_) (l' := #[true, true, true, true, true, true, false, false, false, false, false]) (d := some 124) (by kernel_rfl) rfl (by kernel_rfl) (by kernel_rfl) (by kernel_rfl) (by kernel_rfl) (fun _ _ _ h => h) HF.out rfl ?_ rfl rfl ?_ ?_
                rotate_left
                · intro w' hF; have e1 := hF.2.1.cell1; have p0 := hF.2.2.cell0; have p1 := hF.2.2.cell1; have p2 := hF.2.2.cell2; have p3 := hF.2.2.cell3; have p4 := hF.2.2.cell4; have p5 := hF.2.2.cell5; clear hF; go_simp; try rfl
                rotate_left
                · simp only [Act.put]; exact rfl
                refine Calm.one (i := 6) (l' := #[true, true, true, true, true, true, true, false, false, false, false]) (by kernel_rfl) rfl rfl rfl fun K hK => ?_
                go_simp
                have al := below_alloc wld (.cells #[.int .i64 op, .int .i64 a2, .int .i64 a3, .int .i64 c, .int .i64 (n : Int), .int .i64 s.next] 65)
                have HF' := hide (And.intro (HF.out.1.trans ((al).mono (Nat.le_trans GW.out HF.out.1.size))) (And.intro (HF.out.2.1.step (al)) (HF.out.2.2.step (al))))
                have BXN := hide (Box6.new wld (.int .i64 op) (.int .i64 a2) (.int .i64 a3) (.int .i64 c) (.int .i64 (n : Int)) (.int .i64 s.next))
                replace SY := hide (SY.out.below (al))
                replace WY := hide (WY.out.trans ((al).mono WY.out.size))
                have GEN := hide (HF.out.1.size)
                refine hK _ _ (fun _ => HF'.out) ?_
                clear hK K HF al
                have HF := hide HF'.out
                clear HF'
                generalize wld.alloc (.cells #[.int .i64 op, .int .i64 a2, .int .i64 a3, .int .i64 c, .int .i64 (n : Int), .int .i64 s.next] 65) = wzN at *
                generalize wld.heap.size = gN at *
                refine Calm.one (i := 7) (l' := #[true, true, true, true, true, true, true, true, false, false, false]) (by kernel_rfl) rfl rfl rfl fun K hK => ?_
                have SY2 := SY
                have HB2 := hide HF.out.1
                have SB2 := hide HF.out.2.1
                have KX2 := hide HF.out.2.2
                refine wp_appK _ (.tmp 123) (.tmp 125) rfl base (.slice ka s.keys.length kcap) s.keys rfl SY2.out.keys gN 1 ((op, a2, b2, c), s.next, (n : Int)) rfl (by have h1 := BXN.out; unfold Box6 at h1; rw [A3.out] at h1; exact h1) (by have := HV.out.2.2; omega) (Nat.le_trans (Nat.le_trans GB.out HB.out.size) HB2.out.size) ?_
                intro v' w9 hown hgrow
                obtain ⟨vb, vcb, hvb⟩ := own_slice hown
                rw [List.length_append, List.length_singleton] at hvb
                subst hvb
                have ST9 := hide ((StillR.of_below (S := S) (r := Value.ownBlock (.slice ka s.keys.length kcap)) (HB.out.trans (WY.out.mono HB.out.size))).grown hgrow)
                have SP9 := hide (SY2.out.pushKeys hgrow hown)
                have HF' := hide (And.intro (HB2.out.grown hgrow (Nat.le_trans (Nat.le_trans GB.out HB.out.size) HB2.out.size) (fun q hq => (World.ownsRow.lt SY2.out.keys q hq).1)) (And.intro (show Box3 w9 S 43 (.slice (some ⟨g, 0, none⟩) s.held.length vcap) (.slice ka s.keys.length kcap) (.int .i64 s.next) from (hgrow.block S SB2.out.lt (fun e => own_block_ne SY2.out.keys SB2.out (by decide) e.symm)).trans SB2.out) (show Box6 w9 Kb (.int .i64 op) (.int .i64 a2) (.int .i64 a3) (.int .i64 c) (.int .i64 (n : Int)) (.int .i64 s.next) from (hgrow.block Kb KX2.out.lt (fun e => KN.out Kb e.symm rfl)).trans KX2.out)))
                refine hK _ _ (fun _ => HF'.out) ?_
                clear hK K HF BXN SY WY hown hgrow SY2 HB2 SB2 KX2
                have HF := hide HF'.out
                clear HF'
                refine Calm.takeL 11 (i := 8) (v := ?_) (a' := ?_) (l' := #[true, true, true, true, true, true, true, true, true, false, false]) (d := some 127) (by kernel_rfl) rfl (by kernel_rfl) (by kernel_rfl) (by kernel_rfl) (by kernel_rfl) (fun _ _ _ h => h) HF.out rfl ?_ rfl rfl ?_ ?_
                rotate_left
                · intro w' hF; clear hF; go_simp; try rfl
                rotate_left
                · simp only [Act.put]; exact rfl
                refine Calm.takeL 11 (i := 9) (v := ?_) (a' := ?_) (l' := #[true, true, true, true, true, true, true, true, true, true, false]) (d := some 128) (by kernel_rfl) rfl (by kernel_rfl) (by kernel_rfl) (by kernel_rfl) (by kernel_rfl) (fun _ _ _ h => h) HF.out rfl ?_ rfl rfl ?_ ?_
                rotate_left
                · intro w' hF; clear hF; go_simp; try rfl
                rotate_left
                · simp only [Act.put]; exact rfl
                refine Calm.one (i := 10) (l' := #[true, true, true, true, true, true, true, true, true, true, true]) (by kernel_rfl) rfl rfl rfl fun K hK => ?_
                have s2 := HF.out.2.1.cell1
                have s3 := HF.out.2.1.free 1
                go_simp
                refine hK _ _ (fun h => absurd h (by decide)) ?_
                clear hK K
                refine Calm.done (by kernel_rfl) ?_
                clear s2 s3
                have KZ := hide (Box6.other HF.out.2.2 (C := S) (o := 1) (by omega) (.slice vb (s.keys.length + 1) vcb))
                have STZ := hide (ST9.out.setS 1 (.slice vb (s.keys.length + 1) vcb))
                clear HF ST9
                generalize w9.setCell ⟨S, 1, none⟩ (.slice vb (s.keys.length + 1) vcb) = wA at *
                have c2 := SP9.out.box.cell2
                have cf := SP9.out.box.free 2
                have hn1 := HV.out.1
                have hn2 := HV.out.2.1
                go_upto_region 16 with fail
                replace KZ := hide (Box6.other KZ.out (C := S) (o := 2) (by omega) (.int .i64 (s.next + 1)))
                have SQ := hide (SP9.out.setNext (s.next + 1))
                replace STZ := hide (STZ.out.setS 2 (.int .i64 (s.next + 1)))
                clear c2 cf SP9
                generalize wA.setCell ⟨S, 2, none⟩ (.int .i64 (s.next + 1)) = wB at *
                have p5 := KZ.out.cell5
                go_wp2
                go_ret2
                have hv : ShS.val s n ⟨op, to, x, y, c⟩ = (s.next, (n : Int)) := by unfold ShS.val; rw [if_neg H1.out, KY.out, HF0.out]; rfl
                refine ⟨?_, ⟨.slice vb (s.keys.length + 1) vcb, ?_⟩, STZ.out⟩
                · rw [hv]
                  first | rfl | (dsimp only; rw [if_neg H1.out]; rfl)
                · unfold ShS.aft
                  rw [if_neg (by rw [KY.out, HF0.out]; simp [H1.out]), KY.out]
                  exact SQ.out
end Go.Proofs.Ytclopelniopjkaa
