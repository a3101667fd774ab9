/- row.readNumbers: the numbers of a row's text without its brackets, or where they go wrong. -/
import Derived.Test.YtdafdfgkfkanjaaDoorSpl
import Derived.Test.YtdafdfgkfkanjaaDoorRgN
import Derived.Test.YtdafdfgkfkanjaaDoorWAppIn
import Derived.Test.YtdafdfgkfkanjaaDoorWList
import Derived.Test.YtdafdfgkfkanjaaDoorIRead
import Derived.Test.YtdafdfgkfkanjaaDoorTx
import Derived.Test.YtdafdfgkfkanjaaDoorCalm3
namespace Go.Proofs.YtdafdfgkfkanjaaDoor
open Go.RowKit Go.Shelf
attribute [local go_sem] Oper.semAt_some

theorem str_empty (s : ByteArray) : s.toList.isEmpty = decide (s.size = 0) := by
  rw [ByteArray.toList_eq]
  cases h : s.data.toList with
  | nil => have : s.size = 0 := by show s.data.size = 0; rw [← Array.length_toList, h]; rfl
           simp [this]
  | cons a l => have : s.size ≠ 0 := by show s.data.size ≠ 0; rw [← Array.length_toList, h]; simp
                simp [this]
/-- how many bytes pieces have, each with the byte behind it -/
def tot (ps : List ByteArray) : Nat := (ps.map fun p => p.size + 1).sum
theorem tot_nil : tot [] = 0 := rfl
theorem tot_app (ps : List ByteArray) (x : ByteArray) : tot (ps ++ [x]) = tot ps + x.size + 1 := by simp [tot]; omega
theorem spl_tot (c : UInt8) : ∀ l : List UInt8, ((spl c l).map fun p => p.length + 1).sum = l.length + 1 ∧ spl c l ≠ []
  | [] => ⟨rfl, by simp [spl]⟩
  | b :: l => by
    have h := spl_tot c l
    rw [spl]
    split
    · refine ⟨?_, by simp⟩
      rw [List.map_cons, List.sum_cons, h.1]; simp; omega
    · cases hs : spl c l with
      | nil => exact absurd hs h.2
      | cons q qs =>
        refine ⟨?_, by simp⟩
        have h1 := h.1
        rw [hs, List.map_cons, List.sum_cons] at h1
        simp only [List.map_cons, List.sum_cons, List.length_cons]
        omega
theorem tot_splB (c : UInt8) (s : ByteArray) : tot (splB c s) = s.size + 1 := by
  unfold tot splB
  rw [List.map_map, ← bl_len, ← (spl_tot c (bl s)).1]
  congr 1
theorem spl_few (c : UInt8) (s : ByteArray) : (splB c s).length ≤ s.size + 1 := by
  rw [← tot_splB c s]
  unfold tot
  generalize splB c s = ps
  induction ps with
  | nil => simp
  | cons p ps ih => simp only [List.length_cons, List.map_cons, List.sum_cons]; omega
theorem tot_append (ps qs : List ByteArray) : tot (ps ++ qs) = tot ps + tot qs := by simp [tot]
theorem tot_pre {ps qs : List ByteArray} (h : ps <+: qs) : tot ps ≤ tot qs := by
  obtain ⟨t, rfl⟩ := h
  rw [tot_append]; omega
/-- all pieces are numbers, these -/
def AllRd (ps : List ByteArray) (zs : List Int) : Prop := zs.length = ps.length ∧ ∀ i, i < ps.length → IRd (ps.getD i ByteArray.empty) (zs.getD i 0) 0 0
theorem AllRd.nil : AllRd [] [] := ⟨rfl, fun i hi => absurd hi (by simp)⟩
theorem AllRd.app {ps : List ByteArray} {zs : List Int} {x : ByteArray} {z : Int} (h : AllRd ps zs) (k : IRd x z 0 0) : AllRd (ps ++ [x]) (zs ++ [z]) := by
  refine ⟨by simp [h.1], fun i hi => ?_⟩
  rcases Nat.lt_or_ge i ps.length with h1 | h1
  · rw [List.getD_eq_getElem?_getD, List.getElem?_append_left h1, List.getD_eq_getElem?_getD, List.getElem?_append_left (by rw [h.1]; exact h1), ← List.getD_eq_getElem?_getD, ← List.getD_eq_getElem?_getD]
    exact h.2 i h1
  · have e : i = ps.length := by simp at hi; omega
    subst e
    rw [List.getD_eq_getElem?_getD, List.getElem?_append_right (Nat.le_refl _), List.getD_eq_getElem?_getD, List.getElem?_append_right (by rw [h.1]; exact Nat.le_refl _), h.1]
    simpa using k
/-- what is told where all are numbers: too many, or nothing -/
def spE (ps : List ByteArray) : Nat := if ps.length ≤ 4096 then 0 else 3
def spA (ps : List ByteArray) : Nat := if ps.length ≤ 4096 then 0 else 1 + tot (ps.take 4096)
theorem sp_same {ps : List ByteArray} {x : ByteArray} (h : ps.length ≠ 4096) : spE (ps ++ [x]) = spE ps ∧ spA (ps ++ [x]) = spA ps := by
  unfold spE spA
  rw [List.length_append, List.length_singleton]
  rcases Nat.lt_or_ge ps.length 4096 with h1 | h1
  · rw [if_pos (by omega), if_pos (by omega), if_pos (by omega), if_pos (by omega)]; exact ⟨rfl, rfl⟩
  · rw [if_neg (by omega), if_neg (by omega), if_neg (by omega), if_neg (by omega), List.take_append_of_le_length (by omega)]; exact ⟨rfl, rfl⟩
theorem sp_new {ps : List ByteArray} {x : ByteArray} (h : ps.length = 4096) : spE (ps ++ [x]) = 3 ∧ spA (ps ++ [x]) = 1 + tot ps := by
  unfold spE spA
  rw [List.length_append, List.length_singleton, if_neg (by omega), if_neg (by omega), List.take_append_of_le_length (by omega), ← h, List.take_length]
  exact ⟨rfl, rfl⟩
def RNum (s : ByteArray) (v : Value) (a b : Nat) (w : World) : Prop :=
  (s.size = 0 ∧ v = .slice none 0 0 ∧ a = 0 ∧ b = 0) ∨
  (s.size ≠ 0 ∧ ∃ zs, AllRd (splB 32 s) zs ∧ Ints w v zs ∧ a = spE (splB 32 s) ∧ b = spA (splB 32 s)) ∨
  (s.size ≠ 0 ∧ ∃ pre x z b', pre ++ [x] <+: splB 32 s ∧ (∃ zs, AllRd pre zs) ∧ IRd x z a b' ∧ a ≠ 0 ∧ b = 1 + tot pre + b')

theorem ListI.cells {w : World} {base : Nat} {v : Value} {zs : List Int} (h : ListI w base v zs) {g : Nat} (hg : v.ownBlock = some g) : ∃ cs t f, w.heap[g]? = some (.cells cs t f) := by
  obtain ⟨xs, ⟨⟨_, h1⟩, _⟩, _⟩ := h
  rcases h1 with ⟨rfl, _⟩ | ⟨g', cap, cur', rfl, _, hh', q⟩
  · cases hg
  · have e : g' = g := by simpa [Value.ownBlock] using hg
    subst e
    exact ⟨_, _, _, hh'⟩
theorem ListI.grow {X Y : World} {base : Nat} {v : Value} {zs : List Int} {row : Option Nat} (h : ListI X base v zs) (hg : X.grownBy Y row) (hr : ∀ r, row = some r → ∃ o : Obj, X.heap[r]? = some o ∧ o.isCells = false) : ListI Y base v zs :=
  h.other hg (spares_none hg hr) fun g hv e => by
    obtain ⟨cs, t, f, hc⟩ := h.cells hv
    obtain ⟨o, ho, hn⟩ := hr g e
    rw [hc] at ho
    cases ho
    cases hn
theorem ListI.setC {X : World} {base b o : Nat} {v u : Value} {zs : List Int} (h : ListI X base v zs) (hb : NoLimb X b) (hlt : b < base) : ListI (X.setCell ⟨b, o, none⟩ u) base v zs := by
  have hg : X.grownBy (X.setCell ⟨b, o, none⟩ u) (some b) := ⟨rfl, rfl, rfl, by simp [World.setCell], fun k _ h => Below.heap_setCell _ _ _ _ (by simpa using h)⟩
  exact h.other hg (spares_row hg hb) fun g hv e => by have := (h.lt hv).1; simp only [Option.some.injEq] at e; omega
theorem res_ts {fn : Func} {p q : Tmp} (h : fn.results = #[.tmp p, .cell q 33]) (tmps : Array Value) (w : World) (g : Nat) (x y : Value) (hq : tmps.getD q undef = .pointer (some ⟨g, 0, none⟩)) (hg : Box2 w g 33 x y) :
    (results fn tmps).run Tryd.prog w = .ok (.tuple #[tmps.getD p undef, .agg #[x, y]]) w := by
  have hq' : tmps[q]?.getD undef = .pointer (some ⟨g, 0, none⟩) := by simpa using hq
  simp [results, h, hq', asAddr, run_loadVar_row w g 33 33 #[x, y] (0, 0) _ hg Tryd.underlying33 rfl Tryd.infoSpot]
theorem bx_set {X : World} {b c o : Nat} {t : TypeId} {v u : Value} (h : Boxed X b t v) (hne : b ≠ c) : Boxed (X.setCell ⟨c, o, none⟩ u) b t v := (Below.heap_setCell _ _ _ _ hne).trans h
theorem bx2_set {X : World} {b c o : Nat} {t : TypeId} {v y u : Value} (h : Box2 X b t v y) (hne : b ≠ c) : Box2 (X.setCell ⟨c, o, none⟩ u) b t v y := (Below.heap_setCell _ _ _ _ hne).trans h
theorem bxi_set {X : World} {b c o : Nat} {v y u : Value} (h : Box X b v y) (hne : b ≠ c) : Box (X.setCell ⟨c, o, none⟩ u) b v y := (Below.heap_setCell _ _ _ _ hne).trans h
theorem IRd.bsmall {s : ByteArray} {z : Int} {a b : Nat} (h : IRd s z a b) : b ≤ 65536 + s.size + 1 := by
  rcases h with ⟨_, _, _, rfl⟩ | ⟨_, _, _, _, _, rfl⟩ | ⟨_, _, xs, a', b', hr, (⟨_, _, _, rfl⟩ | ⟨_, _, _, rfl⟩)⟩
  · omega
  · omega
  · have := hr.small.2; omega
  · omega
/-- what stands while the pieces are read -/
structure RS (w : World) (base R L S A bs : Nat) (pre sp : List ByteArray) (Z : World) (v : Value) (zs : List Int) (x : ByteArray) : Prop where
  l : Boxed Z L 25 v
  li : ListI Z base v zs
  rd : AllRd pre zs
  s : Box2 Z S 33 (.int .i64 (spE sp : Nat)) (.int .i64 (spA sp : Nat))
  a : Boxed Z A 3 (.int .i64 (1 + tot pre : Nat))
  r : Box2 Z R 33 (.int .i64 0) (.int .i64 0)
  b : Boxed Z bs 9 (.string x)
  w : Below w.heap.size w Z
  z : base ≤ Z.heap.size
theorem RS.below {w : World} {base R L S A bs : Nat} {pre sp : List ByteArray} {Z Z' : World} {v : Value} {zs : List Int} {x : ByteArray} (q : RS w base R L S A bs pre sp Z v zs x) (hb : Below Z.heap.size Z Z') : RS w base R L S A bs pre sp Z' v zs x :=
  ⟨boxed_step q.l hb, q.li.below hb, q.rd, q.s.step hb, boxed_step q.a hb, q.r.step hb, boxed_step q.b hb, q.w.trans (hb.mono q.w.size), Nat.le_trans q.z hb.size⟩
theorem RS.spot {w : World} {base R L S A bs : Nat} {pre sp : List ByteArray} {Z : World} {v : Value} {zs : List Int} {x : ByteArray} (q : RS w base R L S A bs pre sp Z v zs x) (sp' : List ByteArray) (hw : w.heap.size ≤ S) (h1 : S ≠ L) (h2 : S ≠ A) (h3 : S ≠ R) (h4 : S ≠ bs) (h5 : S < base) :
    RS w base R L S A bs pre sp' ((Z.setCell ⟨S, 0, none⟩ (.int .i64 (spE sp' : Nat))).setCell ⟨S, 1, none⟩ (.int .i64 (spA sp' : Nat))) v zs x :=
  have n1 := Box2.noLimb q.s (by simp) (by simp)
  have n2 := Box2.noLimb (q.s.set0 (.int .i64 (spE sp' : Nat))) (by simp) (by simp)
  ⟨bx_set (bx_set q.l (Ne.symm h1)) (Ne.symm h1), (q.li.setC n1 h5).setC n2 h5, q.rd, q.s.put _ _, bx_set (bx_set q.a (Ne.symm h2)) (Ne.symm h2), bx2_set (bx2_set q.r (Ne.symm h3)) (Ne.symm h3), bx_set (bx_set q.b (Ne.symm h4)) (Ne.symm h4),
   (q.w.setCell (p := ⟨S, 0, none⟩) hw _).setCell (p := ⟨S, 1, none⟩) hw _, by have := q.z; simpa [World.setCell] using this⟩
theorem RS.spares {w : World} {base R L S A bs : Nat} {pre sp : List ByteArray} {Z : World} {v : Value} {zs : List Int} {x : ByteArray} (q : RS w base R L S A bs pre sp Z v zs x) (a b : Nat) : Spares Z ((Z.setCell ⟨S, 0, none⟩ (.int .i64 (a : Nat))).setCell ⟨S, 1, none⟩ (.int .i64 (b : Nat))) :=
  Box2.keeps q.s (by simp) (by simp) _ _
theorem RS.kept {w : World} {base R L S A bs : Nat} {pre sp : List ByteArray} {Z : World} {v : Value} {zs : List Int} {x : ByteArray} (q : RS w base R L S A bs pre sp Z v zs x) {Z5 : World} (hg : Z.grownBy Z5 v.ownBlock) {b : Nat} {o : Obj} (hb : b < base) (ho : Z.heap[b]? = some o) : Z5.heap[b]? = some o :=
  (hg.block b (Array.getElem?_eq_some_iff.1 ho).1 (fun e => by have := (q.li.lt e.symm).1; omega)).trans ho
theorem RS.next {w : World} {base R L S A bs : Nat} {pre sp : List ByteArray} {Z : World} {v : Value} {zs : List Int} {y : ByteArray} (q : RS w base R L S A bs pre sp Z v zs y) {x : ByteArray} {z : Int} {Z5 : World} {v' : Value} (hsp : sp = pre ++ [x]) (hrd : IRd x z 0 0) (hli : ListI Z5 base v' (zs ++ [z])) (hv : ∀ u, v ≠ .int .u32 u)
    (hg : Z.grownBy Z5 v.ownBlock) (n : R < L ∧ L < S ∧ S < A ∧ A < bs ∧ bs + 3 ≤ base) (hw : w.heap.size ≤ R) (hwb : w.heap.size ≤ base) :
    RS w base R L S A bs (pre ++ [x]) (pre ++ [x]) ((Z5.setCell ⟨L, 0, none⟩ v').setCell ⟨A, 0, none⟩ (.int .i64 (1 + tot pre + (x.size + 1) : Nat))) v' (zs ++ [z]) y := by
  have kl : Boxed Z5 L _ _ := q.kept hg (by omega) q.l
  have ka : Boxed Z5 A _ _ := q.kept hg (by omega) q.a
  have ks : Box2 Z5 S _ _ _ := q.kept hg (by omega) q.s
  have kr : Box2 Z5 R _ _ _ := q.kept hg (by omega) q.r
  have kb : Boxed Z5 bs _ _ := q.kept hg (by omega) q.b
  have n1 := Boxed.noLimb kl hv
  have n2 := Boxed.noLimb (bx_set (o := 0) (u := v') ka (c := L) (by omega)) (by simp)
  have e : 1 + tot pre + (x.size + 1) = 1 + tot (pre ++ [x]) := by rw [tot_app]; omega
  rw [e]
  subst hsp
  exact ⟨bx_set (kl.set _) (by omega), (hli.setC n1 (by omega)).setC n2 (by omega), q.rd.app hrd, bx2_set (bx2_set ks (by omega)) (by omega), (bx_set ka (by omega)).set _, bx2_set (bx2_set kr (by omega)) (by omega), bx_set (bx_set kb (by omega)) (by omega),
    ((q.w.grown hg q.w.size (fun r e => Nat.le_trans hwb (q.li.lt e).1)).setCell (p := ⟨L, 0, none⟩) (by show w.heap.size ≤ L; omega) _).setCell (p := ⟨A, 0, none⟩) (by show w.heap.size ≤ A; omega) _,
    by have := q.z; have := hg.size; simp [World.setCell]; omega⟩
def IS (w : World) (base R L S A bs : Nat) (pre : List ByteArray) (Z : World) : Prop := ∃ v zs x, RS w base R L S A bs pre pre Z v zs x
def XS (w : World) (R L S : Nat) (c : Code) (pre : List ByteArray) (Z : World) : Prop :=
  c = .exit 0 ∧ ∃ v pre0 x z a b, pre = pre0 ++ [x] ∧ (∃ zs, AllRd pre0 zs) ∧ IRd x z a b ∧ a ≠ 0 ∧ Boxed Z L 25 v ∧ Box2 Z S 33 (.int .i64 (a : Nat)) (.int .i64 (1 + tot pre0 + b : Nat)) ∧ Box2 Z R 33 (.int .i64 0) (.int .i64 0) ∧ Below w.heap.size w Z
theorem bxO {X Y : World} {b : Nat} {t : TypeId} {v : Value} {row : Option Nat} (h : Boxed X b t v) (hg : X.grownBy Y row) (hr : ∀ r, row = some r → ∃ o : Obj, X.heap[r]? = some o ∧ o.isCells = false) : Boxed Y b t v :=
  boxed_own b t (fun _ : Unit => v) () X Y row h hg hr
theorem bx2O {X Y : World} {b : Nat} {t : TypeId} {v u : Value} {row : Option Nat} (h : Box2 X b t v u) (hg : X.grownBy Y row) (hr : ∀ r, row = some r → ∃ o : Obj, X.heap[r]? = some o ∧ o.isCells = false) : Box2 Y b t v u :=
  box2_own b t (fun _ : Unit => v) (fun _ => u) () X Y row h hg hr
theorem IS.own {w : World} {base R L S A bs C : Nat} (h : w.heap.size ≤ C) : OwnFrom C (IS w base R L S A bs) := fun _ _ _ _ ⟨v, zs, x, q⟩ hg hr =>
  have hr' := fun r e => (hr r e).2
  ⟨v, zs, x, bxO q.l hg hr', q.li.grow hg hr', q.rd, bx2O q.s hg hr', bxO q.a hg hr', bx2O q.r hg hr', bxO q.b hg hr', q.w.grown hg q.w.size (fun r e => Nat.le_trans h (hr r e).1), Nat.le_trans q.z hg.size⟩
theorem XS.own {w : World} {R L S C : Nat} (h : w.heap.size ≤ C) (c : Code) : OwnFrom C (XS w R L S c) := fun _ _ _ _ ⟨hc, v, p0, x, z, a, b, h1, h2, h3, h4, h5, h6, h7, h8⟩ hg hr =>
  have hr' := fun r e => (hr r e).2
  ⟨hc, v, p0, x, z, a, b, h1, h2, h3, h4, bxO h5 hg hr', bx2O h6 hg hr', bx2O h7 hg hr', h8.grown hg h8.size (fun r e => Nat.le_trans h (hr r e).1)⟩
theorem IS.setS {w : World} {base R L S A bs : Nat} (h : w.heap.size ≤ bs) (hb : bs < base) (hR : R ≠ bs) (hL : L ≠ bs) (hS : S ≠ bs) (hA : A ≠ bs) (pre : List ByteArray) (U V : World) : IS w base R L S A bs pre U → setS bs U V → IS w base R L S A bs pre V := by
  rintro ⟨v, zs, x, q⟩ ⟨y, rfl⟩
  exact ⟨v, zs, y, q.l.other hL _, q.li.setC (Boxed.noLimb q.b (by simp)) hb, q.rd, q.s.set_ne (Ne.symm hS) _, q.a.other hA _, q.r.set_ne (Ne.symm hR) _, q.b.set _, q.w.setCell (p := ⟨bs, 0, none⟩) h _, by have := q.z; simpa [World.setCell] using this⟩

set_option maxRecDepth 100000 in
set_option maxHeartbeats 8000000 in
theorem rnum_any (s : ByteArray) (w : World) (hs : s.size ≤ 65536) :
    Calls Tryd.prog 22 #[.string s] w fun e w' => ∃ v a b, e = .returned (.tuple #[v, .agg #[.int .i64 (a : Nat), .int .i64 (b : Nat)]]) ∧ RNum s v a b w' ∧ Below w.heap.size w w' := by
  refine callsC (n := 3) Tryd.func22 rfl ?_
  simp only [Tryd.ntmps22, List.size_toArray, List.length_cons, List.length_nil, Nat.reduceAdd, Nat.reduceSub, Array.replicate_succ, Array.replicate_zero, List.push_toArray, List.append_toArray, List.nil_append, List.cons_append]
  go_upto_region 1 with fail
  have hb := below_alloc w (.cells #[.int .i64 0, .int .i64 0] 33)
  have BR := hide (Box2.new w 33 (.int .i64 0) (.int .i64 0))
  have HB := hide hb
  clear hb
  generalize w.alloc (.cells #[.int .i64 0, .int .i64 0] 33) = w1 at *
  obtain ⟨R, hR⟩ : ∃ R, R = w.heap.size := ⟨_, rfl⟩
  have GR := hide hR
  rw [← hR] at BR
  rw [← hR]
  clear hR
  have GB := hide BR.out.lt
  refine wp_scope_straight ?_
  by_cases h0 : s.size = 0
  · have he : s.toList.isEmpty = true := by rw [str_empty, h0]; rfl
    have c0 := BR.out.cell0
    have c1 := BR.out.cell1
    have f0 := BR.out.free 0
    have f1 := BR.out.free 1
    go_wp2
    show LeavesInM _ _ _ _ _ _ _ _ _
    exact ⟨_, res_ts rfl _ _ R _ _ rfl (BR.out.put _ _), _, 0, 0, rfl, .inl ⟨h0, rfl, rfl, rfl⟩, (HB.out.setCell (p := ⟨R, 0, none⟩) (by rw [GR.out]; exact Nat.le_refl _) _).setCell (p := ⟨R, 1, none⟩) (by rw [GR.out]; exact Nat.le_refl _) _⟩
  · have he : s.toList.isEmpty = false := by rw [str_empty]; simp [h0]
    go_wp2_with fail
    have b1 := below_alloc w1 (.cells #[.slice none 0 0] 25)
    have b2 := below_alloc (w1.alloc (.cells #[.slice none 0 0] 25)) (.cells #[.int .i64 0, .int .i64 0] 33)
    have b3 := below_alloc ((w1.alloc (.cells #[.slice none 0 0] 25)).alloc (.cells #[.int .i64 0, .int .i64 0] 33)) (.cells #[.int .i64 1] 3)
    have BL := hide (boxed_step (boxed_step (Boxed.new w1 25 (.slice none 0 0)) b2) b3)
    have BS := hide ((Box2.new (w1.alloc (.cells #[.slice none 0 0] 25)) 33 (.int .i64 0) (.int .i64 0)).step b3)
    have BA := hide (Boxed.new ((w1.alloc (.cells #[.slice none 0 0] 25)).alloc (.cells #[.int .i64 0, .int .i64 0] 33)) 3 (.int .i64 1))
    replace BR := hide (((BR.out.step b1).step b2).step b3)
    have G1 : Hid (R < w1.heap.size) := hide GB.out
    replace HB := hide (HB.out.trans ((b1.trans ((b2.trans (b3.mono b2.size)).mono b1.size)).mono HB.out.size))
    simp only [World.size_alloc] at BS BA
    clear b1 b2 b3
    generalize ((w1.alloc (.cells #[.slice none 0 0] 25)).alloc (.cells #[.int .i64 0, .int .i64 0] 33)).alloc (.cells #[.int .i64 1] 3) = w4 at *
    obtain ⟨L, hL⟩ : ∃ L, L = w1.heap.size := ⟨_, rfl⟩
    obtain ⟨S, hS⟩ : ∃ S, S = L + 1 := ⟨_, rfl⟩
    obtain ⟨A, hA⟩ : ∃ A, A = S + 1 := ⟨_, rfl⟩
    rw [← hL, ← hS] at BS BA
    rw [← hA] at BA
    rw [← hL] at BL G1
    rw [← hL, ← hS, ← hA]
    have NS := hide hS
    have NA := hide hA
    clear hL hS hA
    refine wp_label ?_
    go_wp2_with fail
    refine (seq_any s ⟨#[32]⟩ _).mono ?_
    rintro e w5 ⟨bs, rfl, hbs, x1, x2, x3, hb⟩
    have X1 := hide x1
    have X2 := hide x2
    have X3 := hide x3
    have NB : Hid (A < bs) := hide (Nat.lt_of_lt_of_le BA.out.lt hbs)
    replace BR := hide (BR.out.step hb)
    replace BL := hide (boxed_step BL.out hb)
    replace BS := hide (BS.out.step hb)
    replace BA := hide (boxed_step BA.out hb)
    replace HB := hide (HB.out.trans (hb.mono HB.out.size))
    clear x1 x2 x3 hbs hb
    go_wp2_with fail
    refine (wpIn_wide (n := 3)).1 ?_
    have GW : Hid (w.heap.size ≤ R) := hide (Nat.le_of_eq GR.out.symm)
    have LB : Hid (bs + 3 ≤ w5.heap.size) := hide X3.out.lt
    have NN : Hid (R < L ∧ L < S ∧ S < A ∧ A < bs ∧ bs + 3 ≤ w5.heap.size) := hide ⟨G1.out, by have := NS.out; omega, by have := NA.out; omega, NB.out, LB.out⟩
    refine rangeC (by omega) (gf := 77) (lb := #[.pointer (some ⟨bs + 1, 0, none⟩), .pointer (some ⟨bs, 0, none⟩), .pointer (some ⟨bs + 2, 0, none⟩)]) rfl (enters_of Tryd.func77 (by kernel_rfl) rfl)
      (spl_yields 2 bs 32 s (by omega) w5 X1.out X2.out X3.out) rfl KC.trans (fun W o hW => ⟨fun i h1 h2 => World.putObj_heap_other (by have := LB.out; omega), by simp [World.putObj]⟩) (Below.refl _ _) (fun _ => rfl)
      (IS w w5.heap.size R L S A bs) (XS w R L S) (IS.own HB.out.size) (XS.own HB.out.size)
      (IS.setS (by have := NN.out; have := GW.out; omega) (by have := NN.out; omega) (by have := NN.out; omega) (by have := NN.out; omega) (by have := NN.out; omega) (by have := NN.out; omega))
      (fun U V ⟨y, e⟩ k hk => by subst e; exact Below.heap_setCell _ _ _ _ (by show k ≠ bs; have := NN.out; omega))
      ⟨_, [], s, BL.out, ListI.nil _ _, AllRd.nil, BS.out, BA.out, BR.out, X1.out, HB.out, Nat.le_refl _⟩
      (fun x a' _ => a' = { tmps := #[.string s, undef, .slice none 0 0, .pointer (some ⟨R, 0, none⟩), .pointer (some ⟨L, 0, none⟩), .pointer (some ⟨S, 0, none⟩), .pointer (some ⟨A, 0, none⟩), .string x, undef, undef, .string s, .bool false, undef, .string s, .func (.func 77) #[] #[.pointer (some ⟨bs + 1, 0, none⟩), .pointer (some ⟨bs, 0, none⟩), .pointer (some ⟨bs + 2, 0, none⟩)], .string x, undef, undef, undef, undef, undef, undef, undef, undef, undef, undef, undef, undef, undef, undef, undef, undef, undef, undef, undef, undef, undef, undef, undef, undef, undef, undef, undef, undef, undef, undef, undef, undef, undef], defers := [] }) (fun x a' => ownFrom_pure _ _) ?asg ?bdy ?dn ?st
    case asg =>
      intro l pre x W K hI hK
      unfold strE
      simp only [List.zip_toArray, List.zip_cons_cons, List.zip_nil_right, List.foldl_toArray', List.size_toArray, List.length_cons, List.length_nil, List.foldl_cons, List.foldl_nil, List.setIfInBounds_toArray, List.set_cons_succ, List.set_cons_zero]
      gi_wp2
      exact hK _ _ (KeepsFrom.refl _ _) ⟨fun _ _ _ => rfl, Nat.le_refl _⟩ hI rfl
    case bdy =>
      rintro l pre x a' Z ⟨v, zs, y, q⟩ rfl hlen
      have Q := hide q
      have HX : Hid (x.size ≤ 65536) := hide (Nat.le_trans (splB_size (hlen.subset (by simp))) hs)
      have HP := hide hlen
      clear q hlen
      have TB : Hid (1 + tot pre + x.size + 1 ≤ 70000) := hide (by have h1 := tot_pre HP.out; rw [tot_app, tot_splB] at h1; omega)
      gi_wp2_with fail
      refine ⟨trivial, (CallsIn.inRound l (callsIn_wide.2 (iread_any x Z (by have := HX.out; omega)))).mono ?_⟩
      rintro e Z2 ⟨u, z, ea, eb, rfl, hi, hrd, hb⟩
      obtain ⟨sb, sm, sn, sc, rfl, hi⟩ := hi.cells
      have RD := hide hrd
      have RK := hide (Rn.below (B := w5.heap.size) (lo := bs) (hi := bs + 3) hb (Nat.le_trans NN.out.2.2.2.2 Q.out.z))
      replace Q := hide (Q.out.below hb)
      have IN := hide hi
      clear hi hrd hb
      gi_upto_region 9 with fail
      have b1 := below_alloc Z2 (.cells #[.bool sb, .slice sm sn sc] 51)
      have b2 := below_alloc (Z2.alloc (.cells #[.bool sb, .slice sm sn sc] 51)) (.cells #[.int .i64 (ea : Nat), .int .i64 (eb : Nat)] 33)
      have XB := hide ((Box.new Z2 (.bool sb) (.slice sm sn sc)).step b2)
      have WB := hide (Box2.new (Z2.alloc (.cells #[.bool sb, .slice sm sn sc] 51)) 33 (.int .i64 (ea : Nat)) (.int .i64 (eb : Nat)))
      simp only [World.size_alloc] at WB
      have hb := b1.trans (b2.mono b1.size)
      have XGE : Hid (w5.heap.size ≤ Z2.heap.size) := hide Q.out.z
      replace RK := hide (RK.out.trans (Rn.below hb (Nat.le_trans NN.out.2.2.2.2 Q.out.z)))
      replace Q := hide (Q.out.below hb)
      replace IN := hide (IN.out.below hb)
      clear b1 b2 hb
      generalize (Z2.alloc (.cells #[.bool sb, .slice sm sn sc] 51)).alloc (.cells #[.int .i64 (ea : Nat), .int .i64 (eb : Nat)] 33) = Z3 at *
      obtain ⟨gx, hgx⟩ : ∃ g, g = Z2.heap.size := ⟨_, rfl⟩
      have GX : Hid (w5.heap.size ≤ gx) := hide (by have := XGE.out; omega)
      rw [← hgx] at XB WB
      rw [← hgx]
      clear hgx XGE
      have e0 := WB.out.cell0
      have e1 := WB.out.cell1
      have ca := Q.out.a.cell
      have s0 := Q.out.s.cell0
      have s1 := Q.out.s.cell1
      have fs := Q.out.s.free
      have fs0 := fs 0
      have fs1 := fs 1
      clear fs
      by_cases hea : ea = 0
      · subst hea
        have hz0 : eb = 0 := RD.out.told.2.2
        subst hz0
        obtain ⟨va, vc, hv, _⟩ := Q.out.li.ints
        subst hv
        have ZL : Hid (zs.length = pre.length) := hide Q.out.rd.1
        by_cases h4 : zs.length = 4096
        · have cl := Q.out.l.cell
          have hq : ((zs.length : Int) == 4096) = true := by simp; omega
          have H4 := hide h4
          clear h4
          gi_upto_region 13 with fail
          have SPK := Q.out.spares 3 (1 + tot pre)
          have SPN := sp_new (x := x) (by rw [← ZL.out]; exact H4.out)
          clear H4
          replace Q := hide (Q.out.spot (pre ++ [x]) (by have := NN.out; have := GW.out; omega) (by have := NN.out; omega) (by have := NN.out; omega) (by have := NN.out; omega) (by have := NN.out; omega) (by have := NN.out; omega))
          rw [SPN.1, SPN.2] at Q
          clear e0 e1 ca s0 s1 fs0 fs1 cl hq SPN
          have K1 := hide (Rn.set (B := w5.heap.size) (lo := bs) (hi := bs + 3) (b := S) (o := 0) Z3 (.int .i64 ((3 : Nat) : Int)) (.inl (by have := NN.out; omega)))
          have K2 := hide (Rn.set (B := w5.heap.size) (lo := bs) (hi := bs + 3) (b := S) (o := 1) (Z3.setCell ⟨S, 0, none⟩ (.int .i64 ((3 : Nat) : Int))) (.int .i64 ((1 + tot pre : Nat) : Int)) (.inl (by have := NN.out; omega)))
          replace RK := hide ((RK.out.trans K1.out).trans K2.out)
          replace IN := hide (IN.out.keep SPK)
          replace XB := hide (bxi_set (o := 1) (u := .int .i64 ((1 + tot pre : Nat) : Int)) (bxi_set (o := 0) (u := .int .i64 ((3 : Nat) : Int)) XB.out (c := S) (by have := NN.out; have := GX.out; omega)) (c := S) (by have := NN.out; have := GX.out; omega))
          clear K1 K2 WB SPK
          have hcs : (1 + (tot pre : Int)) = ((1 + tot pre : Nat) : Int) := by omega
          obtain ⟨Z4, hZ4⟩ : ∃ Z4, Z4 = (Z3.setCell ⟨S, 0, none⟩ (.int .i64 3)).setCell ⟨S, 1, none⟩ (.int .i64 (1 + (tot pre : Int))) := ⟨_, rfl⟩
          have hZ : (Z3.setCell ⟨S, 0, none⟩ (.int .i64 ((3 : Nat) : Int))).setCell ⟨S, 1, none⟩ (.int .i64 ((1 + tot pre : Nat) : Int)) = Z4 := by rw [hZ4, hcs]; rfl
          rw [hZ] at Q RK IN XB
          rw [← hZ4]
          clear hZ hZ4 hcs
          obtain ⟨i0, hi0, hz0, hz1, hz2⟩ := info_parts Tryd.infoIntB
          have al := below_alloc Z4 (.cells #[.bool sb, .slice sm sn sc] 51)
          have TMP := hide (Box.new Z4 (.bool sb) (.slice sm sn sc))
          have QA := hide (Q.out.below al)
          have IA := hide (IN.out.below al)
          have RA := hide (RK.out.trans (Rn.below (B := w5.heap.size) (lo := bs) (hi := bs + 3) al (Nat.le_trans NN.out.2.2.2.2 Q.out.z)))
          obtain ⟨xs, ho, hx⟩ := QA.out.li
          have OO := hide ho
          have OX := hide hx
          have LL : Hid (zs.length ≤ 70000) := hide (by have h1 := HP.out.length_le; have h2 := spl_few 32 s; rw [List.length_append, List.length_singleton] at h1; have := ZL.out; omega)
          have cl := Q.out.l.cell
          have d0 := XB.out.cell0
          have d1 := XB.out.cell1
          have tb := TB.out
          clear al ho hx
          gi_wp2_with (gi_at_builtin; refine wpListIn_app2 _ rfl _ _ 25 rfl w5.heap.size 51 i0 Tryd.underlying25 hi0 hz0 hz1 hz2 _ _ _ rfl OO.out Z4.heap.size 1 sb sm sn sc rfl TMP.out.cell0 TMP.out.cell1 (by have := LL.out; omega) QA.out.z ?_; intro v' Z5 hown hgrow hbl; have OW := hide hown; have GRW := hide hgrow; have cl5 := (show Boxed Z5 L _ _ from QA.out.kept hgrow (by have := NN.out; omega) QA.out.l).cell; have fl5 := (show Boxed Z5 L _ _ from QA.out.kept hgrow (by have := NN.out; omega) QA.out.l).frozen; have ca5 := (show Boxed Z5 A _ _ from QA.out.kept hgrow (by have := NN.out; omega) QA.out.a).cell; have fa5 := (show Boxed Z5 A _ _ from QA.out.kept hgrow (by have := NN.out; omega) QA.out.a).frozen; obtain ⟨va', vc', hv', _⟩ := (ListI.app OO.out OX.out IA.out hown hgrow).ints; rw [List.length_append, List.length_singleton] at hv'; subst hv'; have nLA : L ≠ A := (by have := NN.out; omega); clear hown hgrow hbl cl d0 d1)
          have hcast : (1 + (tot pre : Int) + ((x.size : Int) + 1)) = ((1 + tot pre + (x.size + 1) : Nat) : Int) := by omega
          rw [hcast]
          have RN := RA.out.trans ((Rn.grown (B := w5.heap.size) GRW.out (fun r e => ⟨.inr (by have := (QA.out.li.lt e).1; have := NN.out; omega), QA.out.li.cells e⟩) (Nat.le_trans NN.out.2.2.2.2 QA.out.z)).trans ((Rn.set (b := L) (o := 0) _ (.slice va' (zs.length + 1) vc') (.inl (by have := NN.out; omega))).trans (Rn.set (b := A) (o := 0) _ (.int .i64 ((1 + tot pre + (x.size + 1) : Nat) : Int)) (.inl (by have := NN.out; omega)))))
          exact ⟨RN.kf, ⟨RN.kc, RN.kf.size⟩, _, zs ++ [z], y, QA.out.next rfl RD.out (ListI.app OO.out OX.out IA.out OW.out GRW.out) (by simp) GRW.out NN.out GW.out HB.out.size⟩
        · have cl := Q.out.l.cell
          have hq : ((zs.length : Int) == 4096) = false := by simp; omega
          gi_upto_region 13 with fail
          clear e0 e1 ca s0 s1 fs0 fs1 cl hq
          have SPN := sp_same (x := x) (by rw [← ZL.out]; exact h4)
          replace Q : Hid (RS w w5.heap.size R L S A bs pre (pre ++ [x]) Z3 _ zs y) := hide ⟨Q.out.l, Q.out.li, Q.out.rd, by rw [SPN.1, SPN.2]; exact Q.out.s, Q.out.a, Q.out.r, Q.out.b, Q.out.w, Q.out.z⟩
          clear SPN
          obtain ⟨i0, hi0, hz0, hz1, hz2⟩ := info_parts Tryd.infoIntB
          have al := below_alloc Z3 (.cells #[.bool sb, .slice sm sn sc] 51)
          have TMP := hide (Box.new Z3 (.bool sb) (.slice sm sn sc))
          have QA := hide (Q.out.below al)
          have IA := hide (IN.out.below al)
          have RA := hide (RK.out.trans (Rn.below (B := w5.heap.size) (lo := bs) (hi := bs + 3) al (Nat.le_trans NN.out.2.2.2.2 Q.out.z)))
          obtain ⟨xs, ho, hx⟩ := QA.out.li
          have OO := hide ho
          have OX := hide hx
          have LL : Hid (zs.length ≤ 70000) := hide (by have h1 := HP.out.length_le; have h2 := spl_few 32 s; rw [List.length_append, List.length_singleton] at h1; have := ZL.out; omega)
          have cl := Q.out.l.cell
          have d0 := XB.out.cell0
          have d1 := XB.out.cell1
          have tb := TB.out
          clear al ho hx
          gi_wp2_with (gi_at_builtin; refine wpListIn_app2 _ rfl _ _ 25 rfl w5.heap.size 51 i0 Tryd.underlying25 hi0 hz0 hz1 hz2 _ _ _ rfl OO.out Z3.heap.size 1 sb sm sn sc rfl TMP.out.cell0 TMP.out.cell1 (by have := LL.out; omega) QA.out.z ?_; intro v' Z5 hown hgrow hbl; have OW := hide hown; have GRW := hide hgrow; have cl5 := (show Boxed Z5 L _ _ from QA.out.kept hgrow (by have := NN.out; omega) QA.out.l).cell; have fl5 := (show Boxed Z5 L _ _ from QA.out.kept hgrow (by have := NN.out; omega) QA.out.l).frozen; have ca5 := (show Boxed Z5 A _ _ from QA.out.kept hgrow (by have := NN.out; omega) QA.out.a).cell; have fa5 := (show Boxed Z5 A _ _ from QA.out.kept hgrow (by have := NN.out; omega) QA.out.a).frozen; obtain ⟨va', vc', hv', _⟩ := (ListI.app OO.out OX.out IA.out hown hgrow).ints; rw [List.length_append, List.length_singleton] at hv'; subst hv'; have nLA : L ≠ A := (by have := NN.out; omega); clear hown hgrow hbl cl d0 d1)
          have hcast : (1 + (tot pre : Int) + ((x.size : Int) + 1)) = ((1 + tot pre + (x.size + 1) : Nat) : Int) := by omega
          rw [hcast]
          have RN := RA.out.trans ((Rn.grown (B := w5.heap.size) GRW.out (fun r e => ⟨.inr (by have := (QA.out.li.lt e).1; have := NN.out; omega), QA.out.li.cells e⟩) (Nat.le_trans NN.out.2.2.2.2 QA.out.z)).trans ((Rn.set (b := L) (o := 0) _ (.slice va' (zs.length + 1) vc') (.inl (by have := NN.out; omega))).trans (Rn.set (b := A) (o := 0) _ (.int .i64 ((1 + tot pre + (x.size + 1) : Nat) : Int)) (.inl (by have := NN.out; omega)))))
          exact ⟨RN.kf, ⟨RN.kc, RN.kf.size⟩, _, zs ++ [z], y, QA.out.next rfl RD.out (ListI.app OO.out OX.out IA.out OW.out GRW.out) (by simp) GRW.out NN.out GW.out HB.out.size⟩
      · have hne : ((ea : Int) != 0) = true := by simp; omega
        have EB : eb ≤ 200000 := by have := RD.out.bsmall; have := HX.out; omega
        have tb := TB.out
        gi_wp2
        have hcast : (1 + (tot pre : Int) + (eb : Int)) = ((1 + tot pre + eb : Nat) : Int) := by omega
        rw [hcast]
        exact ⟨RK.out.kf.trans (((KeepsOthers.setCell _ _ _).trans (KeepsOthers.setCell _ _ _)).from _), rfl, v, pre, x, z, ea, eb, rfl, ⟨zs, Q.out.rd⟩, RD.out, hea, bx_set (bx_set Q.out.l (by have := NN.out; omega)) (by have := NN.out; omega), Q.out.s.put _ _, bx2_set (bx2_set Q.out.r (by have := NN.out; omega)) (by have := NN.out; omega),
          (Q.out.w.setCell (p := ⟨S, 0, none⟩) (by show w.heap.size ≤ S; have := NN.out; have := GW.out; omega) _).setCell (p := ⟨S, 1, none⟩) (by show w.heap.size ≤ S; have := NN.out; have := GW.out; omega) _⟩
    case dn =>
      rintro D xs Z hD rfl ⟨v, zs, y, q⟩ hK
      have Q := hide q
      have HK := hide hK
      have HD := hide hD
      obtain ⟨ee, hee⟩ : ∃ ee, ee = spE (splB 32 s) := ⟨_, rfl⟩
      obtain ⟨aa, haa⟩ : ∃ aa, aa = spA (splB 32 s) := ⟨_, rfl⟩
      have hl := q.l
      have hs2 := q.s
      have hr := q.r
      rw [← hee, ← haa] at hs2
      have EE := hide (And.intro hee haa)
      have NR := hide (Box2.noLimb hr (by simp) (by simp))
      have NR2 := hide (Box2.noLimb (hr.set0 (.int .i64 (ee : Nat))) (by simp) (by simp))
      have HR := hide hr
      clear q hK hD hee haa
      simp only [Exit.inBlock, Exit.then]
      have cl := hl.cell
      have s0 := hs2.cell0
      have s1 := hs2.cell1
      have r0 := hr.cell0
      have r1 := hr.cell1
      have fr := hr.free
      have fr0 := fr 0
      have fr1 := fr 1
      clear fr
      go_wp2
      go_region
      go_wp2
      refine leavesC (B := w5.heap.size) (I := fun (_ : Unit) V => Box2 V R 33 (.int .i64 (ee : Nat)) (.int .i64 (aa : Nat)) ∧ ListI V w5.heap.size v zs ∧ Below w.heap.size w V)
        (fun _ X Y row q hg hr => ⟨bx2O q.1 hg (fun r e => (hr r e).2), q.2.1.grow hg (fun r e => (hr r e).2), q.2.2.grown hg q.2.2.size (fun r e => Nat.le_trans HB.out.size (hr r e).1)⟩) ()
        (fun V q => ⟨_, res_ts rfl _ _ R _ _ rfl q.1, v, ee, aa, rfl, .inr (.inl ⟨h0, zs, Q.out.rd, q.2.1.ints, EE.out.1, EE.out.2⟩), q.2.2⟩) [D] _ (MarksC.one HD.out ?_)
        ⟨HR.out.put _ _, (Q.out.li.setC NR.out (by have := NN.out; omega)).setC NR2.out (by have := NN.out; omega), ((Q.out.w.setCell (p := ⟨R, 0, none⟩) GW.out _).setCell (p := ⟨R, 1, none⟩) GW.out _).drew⟩
      exact (Below.heap_setCell _ _ _ _ (by show D ≠ R; have := NN.out; have := HD.out; omega)).trans ((Below.heap_setCell _ _ _ _ (by show D ≠ R; have := NN.out; have := HD.out; omega)).trans HK.out)
    case st =>
      rintro D c pre Z hD hp ⟨rfl, v, pre0, x, z, ea, eb, rfl, hrd, hx, ha, hl, hs2, hr, hw⟩ hK
      have HK := hide hK
      have HD := hide hD
      have HP := hide hp
      have HX := hide hx
      have HW := hide hw
      have HRD := hide hrd
      obtain ⟨aa, haa⟩ : ∃ aa, aa = 1 + tot pre0 + eb := ⟨_, rfl⟩
      rw [← haa] at hs2
      have AA := hide haa
      have HR := hide hr
      clear hK hD hp hx hw hrd haa
      refine wpIn_exit ?_
      simp only [Exit.inBlock, Exit.then]
      rw [if_pos trivial]
      have cl := hl.cell
      have s0 := hs2.cell0
      have s1 := hs2.cell1
      have r0 := hr.cell0
      have r1 := hr.cell1
      have fr := hr.free
      have fr0 := fr 0
      have fr1 := fr 1
      clear fr
      go_wp2
      go_region
      go_wp2
      refine leavesC (B := w5.heap.size) (I := fun (_ : Unit) V => Box2 V R 33 (.int .i64 (ea : Nat)) (.int .i64 (aa : Nat)) ∧ Below w.heap.size w V)
        (fun _ X Y row q hg hr => ⟨bx2O q.1 hg (fun r e => (hr r e).2), q.2.grown hg q.2.size (fun r e => Nat.le_trans HB.out.size (hr r e).1)⟩) ()
        (fun V q => ⟨_, res_ts rfl _ _ R _ _ rfl q.1, v, ea, aa, rfl, .inr (.inr ⟨h0, pre0, x, z, eb, HP.out, HRD.out, HX.out, ha, AA.out⟩), q.2⟩) [D] _ (MarksC.one HD.out ?_)
        ⟨HR.out.put _ _, ((HW.out.setCell (p := ⟨R, 0, none⟩) GW.out _).setCell (p := ⟨R, 1, none⟩) GW.out _).drew⟩
      exact (Below.heap_setCell _ _ _ _ (by show D ≠ R; have := NN.out; have := HD.out; omega)).trans ((Below.heap_setCell _ _ _ _ (by show D ≠ R; have := NN.out; have := HD.out; omega)).trans HK.out)
end Go.Proofs.YtdafdfgkfkanjaaDoor
