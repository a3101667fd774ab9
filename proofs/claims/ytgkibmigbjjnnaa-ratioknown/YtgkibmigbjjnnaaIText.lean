/- integer.Int's Text: a minus, if it is below 0, and the digits. -/
import Derived.Test.YtgkibmigbjjnnaaText
import Derived.Test.YtgkibmigbjjnnaaIVar
import Derived.Maps.AppendAt
namespace Go.Proofs.Ytgkibmigbjjnnaa
open Go.RowKit Go.Shelf
attribute [local go_sem] Oper.semAt_some

/-- an append within a fence: where the new row lies -/
theorem wpListIn_append_at {F : Fence} {n : Nat} {P : Program} (w : World) {ops : Array Oper} {rest : List Oper} {o : Oper} {a : Act} {Q : Exit → Act → World → Prop}
    (hg : o.guard = none) (s x : Operand) (t : TypeId) (hop : o.op = Op.call { callee := Callee.builtin Builtin.append, args := #[s, x], argTypes := #[t, t] })
    (base : Nat) (e : TypeId) (i : TypeInfo) (z : Value) (size bytes : Nat) (h1 : P.underlying t = some (.slice e)) (h2 : P.info? e = some i) (h3 : i.zero = some z) (h4 : i.size = size) (h5 : i.bytes = bytes) (h6 : z.cells.size = size) (h7 : 0 < size)
    (v : Value) (k : Nat) (xs : List Value) (hs : a.eval s = v) (hown : w.ownsRow base e size v k xs) (ad : Addr) (m c : Nat) (news : List Value) (hx : a.eval x = .slice (some ad) m c) (hn : news.length = m * size)
    (hc : ∀ j u, news[j]? = some u → w.cell? (ad.add j) = some u) (h1c : ∀ u ∈ news, u.oneCell' = true) (b1 : k + m ≤ maxLen) (b2 : (k + m) * bytes ≤ 140737488355328) (b3 : base ≤ w.heap.size)
    (hK : ∀ v' w', w'.ownsRow base e size v' (k + m) (xs ++ news) → w.grownBy w' v.ownBlock → (v'.ownBlock = v.ownBlock ∨ v'.ownBlock = some w.heap.size) → wpListIn F n P ops Q rest (a.put o.dst v') w') :
    wpListIn F n P ops Q (o :: rest) a w := by
  refine wpListIn_plain hg fun K hK' => ?_
  obtain ⟨v', w', hrun, r1, r2, _, r4⟩ := run_append_own_at (P := P) w base t o.type e i z size bytes h1 h2 h3 h4 h5 h6 h7 v k xs hown ad m c news hn hc h1c b1 b2 b3
  unfold Oper.wpIn
  refine ⟨?_, ?_⟩
  · simp [Oper.about, hop, resolve, Target.leads, Sem.run_pure]
  · rw [Oper.semAt_plain F _ _ (by rw [hop]; intro c hc'; cases hc')]
    simp [execOp, hop, resolve, invoke, builtin, hs, hx, hrun, Result.andThen]
    exact hK' _ _ (hK v' w' r1 r2 r4)

/-- the row lies below lo or from hi on -/
def AsideV (lo hi : Nat) (v : Value) : Prop := ∀ j, v.ownBlock = some j → j < lo ∨ hi ≤ j

theorem boxed_app2 {W w1 : World} {n₀ B lo hi T : Nat} {t e : TypeId} {size : Nat} {v v' : Value} {k m : Nat} {xs ys : List Value} {tmp : Obj}
    (hv : Boxed W B t v) (hte : t ≠ e) (hrow : W.ownsRow n₀ e size v k xs) (hhi : hi ≤ W.heap.size) (hB : B < lo) (hT : T ≤ B) (hTn : T ≤ n₀) (hap : AsideV lo hi v) (hbl : v'.ownBlock = v.ownBlock ∨ v'.ownBlock = some (W.alloc tmp).heap.size)
    (hown' : w1.ownsRow n₀ e size v' m ys) (hgrow : (W.alloc tmp).grownBy w1 v.ownBlock) :
    Boxed w1 B t v ∧ Boxed (w1.setCell ⟨B, 0, none⟩ v') B t v' ∧ (w1.setCell ⟨B, 0, none⟩ v').ownsRow n₀ e size v' m ys ∧ KeepsOthers W (w1.setCell ⟨B, 0, none⟩ v') ∧ Keeps lo hi W (w1.setCell ⟨B, 0, none⟩ v') ∧ Below T W (w1.setCell ⟨B, 0, none⟩ v') ∧ AsideV lo hi v' := by
  have hv1 : Boxed w1 B t v := (hv.alloc tmp).kept hgrow (hv.not_row hte hrow)
  have hge : ∀ j, v.ownBlock = some j → n₀ ≤ j := fun j ej => (hrow.lt j ej).1
  refine ⟨hv1, hv1.set v', hown'.kept (grownBy_setCell' w1 B v') (.inr (hv1.not_row hte hown').symm), ?_, ?_, ?_, ?_⟩
  · refine ((KeepsOthers.alloc W tmp).trans (KeepsOthers.of_grownBy hgrow fun j o ej hj => ?_)).trans (KeepsOthers.setCell _ _ _)
    rcases (hrow.alloc tmp).2 with ⟨rfl, _⟩ | ⟨g, cap, cur, rfl, _, hgb, _⟩
    · simp [Value.ownBlock] at ej
    · obtain rfl : g = j := by simpa [Value.ownBlock] using ej
      rw [hgb] at hj; cases hj; rfl
  · intro i h1 h2
    rw [Below.heap_setCell _ _ _ _ (by show i ≠ B; omega), hgrow.block i (by simp; omega) (fun e' => by have := hap i e'.symm; omega), Below.heap_alloc _ _ _ (by omega)]
  · exact (((Below.refl T W).alloc (by have := hv.lt; omega) tmp).grown hgrow (by have := hv.lt; simp; omega) (fun j ej => Nat.le_trans hTn (hge j ej))).setCell (p := ⟨B, 0, none⟩) hT v'
  · intro j ej
    rcases hbl with h | h
    · exact hap j (by rw [← h]; exact ej)
    · rw [h] at ej; simp at ej; right; omega

/-- a number's text -/
def itxt (z : Int) : ByteArray := strOfNums ((if z < 0 then [45] else []) ++ byts (dec z.natAbs))
theorem itxt_pos (n : Nat) : Ending.returned (.string (strOfNums (byts (dec n)))) = .returned (.string (itxt (sg false n))) := by
  unfold itxt; rw [sg_abs, if_neg (by simp)]; rfl
theorem itxt_neg (n : Nat) (h : n ≠ 0) : Ending.returned (.string (strOfNums ([(45 : Int)] ++ byts (dec n)))) = .returned (.string (itxt (sg true n))) := by
  unfold itxt; rw [sg_abs, if_pos (by simp; omega)]
theorem zeroCells_size1 (z : Value) (k : Nat) : (Builtin.zeroCells #[z] k).size = k := by simp [Builtin.zeroCells]

theorem ownsRow_below {w w' : World} {base : Nat} {e : TypeId} {size : Nat} {v : Value} {k : Nat} {xs : List Value} (h : w.ownsRow base e size v k xs) (hb : Below w.heap.size w w') : w'.ownsRow base e size v k xs := by
  refine ⟨h.1, ?_⟩
  rcases h.2 with h0 | ⟨g', cap', cur, e, hg, hh, r⟩
  · exact .inl h0
  · refine .inr ⟨g', cap', cur, e, hg, ?_, r⟩
    rw [hb.block g' (Array.getElem?_eq_some_iff.1 hh).1]; exact hh

set_option maxRecDepth 100000 in
set_option maxHeartbeats 4000000 in
theorem itext_any (v : Value) (z : Int) (w : World) (h : IntAt w v z) (b1 : (lim z.natAbs).length ≤ 1000000000) :
    Calls Try.prog 14 #[v] w fun e w' => e = .returned (.string (itxt z)) ∧ Below w.heap.size w w' := by
  obtain ⟨i0, hi, hz0, hz1, hz2⟩ := info_parts Try.info5
  obtain ⟨b, n, a, c, rfl, hn, rfl, h0⟩ := h
  rw [sg_abs] at b1
  have HN := hide hn
  have H0 := hide h0
  have HDB := hide (dec_bound (val_lt (ok_lim n)))
  rw [val_lim] at HDB
  clear hn h0
  refine (callsIn_wide (n := 3)).1 ?_
  refine callsIn_of_wp_marks Try.func14 rfl trivial ?_ rfl
  simp only [Try.ntmps14, List.size_toArray, List.length_cons, List.length_nil, Nat.reduceAdd, Nat.reduceSub, Array.replicate_succ, Array.replicate_zero, List.push_toArray, List.append_toArray, List.nil_append, List.cons_append]
  have HL : Hid ((toldD (grp n)).length = (dec n).length) := by show _ = _; rw [← told_len, List.length_map]
  have hlenB : (toldD (grp n)).length ≤ 32000000001 := by have := HL.out; have := HDB.out; omega
  cases b with
  | false =>
    have HX : Hid (Box ((w.alloc (.cells #[.bool false, .slice a (lim n).length c] 25)).alloc (.cells #[.slice none 0 0] 86)) w.heap.size (.bool false) (.slice a (lim n).length c) ∧ Below w.heap.size w ((w.alloc (.cells #[.bool false, .slice a (lim n).length c] 25)).alloc (.cells #[.slice none 0 0] 86))) := hide ⟨(Box.new _ _ _).step (below_alloc _ _), (below_alloc _ _).trans ((below_alloc _ _).mono (by simp))⟩
    have bT0 : Hid (Boxed ((w.alloc (.cells #[.bool false, .slice a (lim n).length c] 25)).alloc (.cells #[.slice none 0 0] 86)) (w.heap.size + 1) 86 (.slice none 0 0)) := hide (by have := Boxed.new (w.alloc (.cells #[.bool false, .slice a (lim n).length c] 25)) 86 (.slice none 0 0); rwa [World.size_alloc] at this)
    gi_wp2_with fail
    refine ⟨trivial, ?_⟩
    have ST : Hid (∃ rv, rv = Value.slice none 0 0 ∧ Boxed ((w.alloc (.cells #[.bool false, .slice a (lim n).length c] 25)).alloc (.cells #[.slice none 0 0] 86)) (w.heap.size + 1) 86 rv ∧ ((w.alloc (.cells #[.bool false, .slice a (lim n).length c] 25)).alloc (.cells #[.slice none 0 0] 86)).ownsRow (w.heap.size + 1 + 1) 5 1 rv 0 []) := hide ⟨_, rfl, bT0.out, World.ownsRow_nil _ _ _ _⟩
    have HS1 : Hid (((w.alloc (.cells #[.bool false, .slice a (lim n).length c] 25)).alloc (.cells #[.slice none 0 0] 86)).heap.size = w.heap.size + 1 + 1) := hide (by simp)
    generalize hW1 : ((w.alloc (.cells #[.bool false, .slice a (lim n).length c] 25)).alloc (.cells #[.slice none 0 0] 86)) = W1 at *
    clear hW1 bT0
    obtain ⟨rv, rfl, bT, hrow0⟩ := ST.out
    clear ST
    replace HN := hide (HN.out.below HX.out.2)
    refine (callsIn_wide.2 (digits_any _ (lim n) _ HN.out b1)).mono ?_
    rintro e w2 ⟨bx, gv, rfl, hx1, hx2, hcx, hO, hb2⟩
    rw [val_lim] at hO
    have hsz := hb2.size
    have bT2 : Boxed w2 (w.heap.size + 1) 86 (.slice none 0 0) := (hb2.block _ bT.lt).trans bT
    have hrow2 : w2.ownsRow (w.heap.size + 1 + 1) 5 1 (.slice none 0 0) 0 [] := ownsRow_below hrow0 hb2
    have hB0 : Below w.heap.size w w2 := HX.out.2.trans (hb2.mono (by have := HX.out.2.size; omega))
    have hs1 := HS1.out
    have hap : AsideV W1.heap.size w2.heap.size (.slice none 0 0) := fun j hj => .inl (hrow0.lt j hj).2
    clear hrow0 bT HX
    gi_wp2_with fail
    refine wpIn_rangeFunc_ownG rfl (by omega) (gf := 74) (lb := #[.pointer (some ⟨bx, 0, none⟩)]) rfl trivial (enters_of Try.func74 (by kernel_rfl) rfl)
      (digits_stops 2 (by omega) bx W1.heap.size w2.heap.size W1.heap.size gv (grp n) (grp_lt _) (grp_ne _) w2 hO (Nat.le_refl _) rfl hx1 hx2 hcx) Keeps.trans
      (fun W l o o' hl _ _ _ k _ h2 => by rw [World.putObj_heap_other (by omega)]) (Below.refl _ _) (fun _ => rfl)
      (fun pre W => (∃ v, Boxed W (w.heap.size + 1) 86 v ∧ W.ownsRow (w.heap.size + 1 + 1) 5 1 v (pre.length) (bytV pre) ∧ AsideV W1.heap.size w2.heap.size v) ∧ Below w.heap.size w W ∧ w2.heap.size ≤ W.heap.size)
      (fun _ _ _ => False)
      (OwnFrom.and (Go.Own.from (holdsRow_own (w.heap.size + 1 + 1) (w.heap.size + 1) 86 5 1 (fun pre => pre.length) (fun pre => bytV pre) (fun _ v => AsideV W1.heap.size w2.heap.size v)) _) (OwnFrom.and (ownFrom_below (by omega) (by omega)) (fun _ _ _ _ hs hg _ => Nat.le_trans hs hg.size)))
      (fun _ _ _ _ _ hs _ _ => hs)
      ⟨⟨_, bT2, hrow2, hap⟩, hB0, Nat.le_refl _⟩
      (fun x => { tmps := #[.agg #[.bool false, .slice a (lim n).length c], .pointer (some ⟨w.heap.size, 0, none⟩), .string { data := #[] }, .pointer (some ⟨w.heap.size + 1, 0, none⟩), .int .i64 (x.1 : Nat), .pointer (some ⟨w.heap.size, 0, none⟩), .bool false, undef, undef, undef, .pointer (some ⟨w.heap.size, 1, none⟩), .slice a (lim n).length c, .func (.func 74) #[] #[.pointer (some ⟨bx, 0, none⟩)], .int .i64 (x.1 : Nat), undef, undef, undef, undef, undef, undef, undef, undef], defers := [] }) ?assign ?body ?done ?stop
    case assign =>
      intro l x W K hK
      gi_wp2
      exact hK
    case body =>
      rintro l pre x W ⟨⟨v, hv, hrow, hap⟩, hB, hS⟩ hlt
      have hc := hv.cell
      have hx := x.2
      gi_wp2_with (gi_at_builtin; refine wpListIn_append_at _ rfl _ _ 86 rfl (w.heap.size + 1 + 1) 5 i0 (.int .u8 0) 1 1 Try.underlying86 hi hz0 hz1 hz2 rfl (by decide) _ _ _ rfl (hrow.alloc _) ⟨W.heap.size, 0, none⟩ 1 1 [.int .u8 ((48 : Int) + (x.1 : Int))] rfl rfl (cell_one_new _ _ _) (by simp [Value.oneCell']) (by unfold maxLen; omega) (by omega) (by simp; omega) ?_; intro v' w1 hown' hgrow hbl; obtain ⟨g', cap', rfl⟩ := ownsRow_succ hown'; obtain ⟨hv1, hv2, hr2, hk2, hkk2, hb2, hap2⟩ := boxed_app2 (lo := W1.heap.size) (hi := w2.heap.size) (T := w.heap.size) hv (by decide) hrow hS (by omega) (by omega) (by omega) hap hbl hown' hgrow; have hc1 := hv1.cell; have hf1 := hv1.frozen)
      refine ⟨hk2.from _, hkk2, ⟨⟨_, hv2, ?_, hap2⟩, hB.trans hb2, ?_⟩⟩
      · rw [bytV_snoc] at hr2; simpa using hr2
      · have := hgrow.size; simp at this; simp [World.setCell]; omega
    case done =>
      rintro D ys W hD rfl ⟨⟨v, hv, hrow, _⟩, hB, hS⟩ hK
      have hne : (toldD (grp n)).length ≠ 0 := by rw [HL.out, dec_length]; omega
      have hD' : w.heap.size ≤ D := by omega
      rcases hrow.2 with ⟨_, h0⟩ | ⟨g, cap, cur, rfl, _, hgg, _, _, hcs, ht⟩
      · exact absurd h0 (by omega)
      · have hc := hv.cell
        have e1 : (toldD (grp n)).map (fun (x : Dg) => (48 : Int) + (x.1 : Int)) = byts (dec n) := by rw [← byts_of, told_len]
        have hconv := run_convert_bytes_arg (P := Try.prog) W 86 5 Try.underlying86 Try.underlying5 g 0 ((toldD (grp n)).length) cap (byts (dec n)) (by rw [← e1]; simp) (by
          intro i hi
          rw [show 0 + i = i from by omega, hrow.cellAt i (by omega), ← e1]
          simp [bytV, hi]
          ) 9 Try.underlying9
        clear e1 hne
        gi_wp2
        refine ⟨by simp, .inl ⟨_, _, rfl, run_takeDeferred hK, ?_⟩⟩
        exact ⟨_, results_tmp rfl _ _ _, (by refine Eq.trans ?_ (itxt_pos n); rfl), hB.trans (belowK_b (w := w) (Nat.le_refl _) W D _ _ hD' hK rfl rfl)⟩
    case stop =>
      rintro D c pre W _ _ h _
      exact h.elim
  | true =>
    have HX : Hid (Box ((w.alloc (.cells #[.bool true, .slice a (lim n).length c] 25)).alloc (.cells #[.slice none 0 0] 86)) w.heap.size (.bool true) (.slice a (lim n).length c) ∧ Below w.heap.size w ((w.alloc (.cells #[.bool true, .slice a (lim n).length c] 25)).alloc (.cells #[.slice none 0 0] 86))) := hide ⟨(Box.new _ _ _).step (below_alloc _ _), (below_alloc _ _).trans ((below_alloc _ _).mono (by simp))⟩
    have bT0 : Hid (Boxed ((w.alloc (.cells #[.bool true, .slice a (lim n).length c] 25)).alloc (.cells #[.slice none 0 0] 86)) (w.heap.size + 1) 86 (.slice none 0 0)) := hide (by have := Boxed.new (w.alloc (.cells #[.bool true, .slice a (lim n).length c] 25)) 86 (.slice none 0 0); rwa [World.size_alloc] at this)
    gi_wp2_with fail
    refine ⟨trivial, ?_⟩
    have HCP : Hid (1 ≤ ((Question.appendCap 1 0 5).cut (w.tape w.drawn (Question.appendCap 1 0 5))) ∧ ((Question.appendCap 1 0 5).cut (w.tape w.drawn (Question.appendCap 1 0 5))) ≤ maxLen) := hide ⟨Nat.le_add_right _ _, by have := Nat.mod_lt (w.tape w.drawn (Question.appendCap 1 0 5)) (show 0 < 2 ^ 63 - 1 by decide); simp only [Question.cut, maxLen]; omega⟩
    generalize ((Question.appendCap 1 0 5).cut (w.tape w.drawn (Question.appendCap 1 0 5))) = cp at *
    replace HX : Hid (Box ((((w.alloc (.cells #[.bool true, .slice a (lim n).length c] 25)).alloc (.cells #[.slice (some ⟨w.heap.size + 1 + 1 + 1, 0, none⟩) 1 cp] 86)).alloc (.cells #[.int .u8 45] 5)).alloc (.cells (#[.int .u8 45] ++ Builtin.zeroCells #[.int .u8 0] (cp - 1)) 5)).drew w.heap.size (.bool true) (.slice a (lim n).length c) ∧ Below w.heap.size w ((((w.alloc (.cells #[.bool true, .slice a (lim n).length c] 25)).alloc (.cells #[.slice (some ⟨w.heap.size + 1 + 1 + 1, 0, none⟩) 1 cp] 86)).alloc (.cells #[.int .u8 45] 5)).alloc (.cells (#[.int .u8 45] ++ Builtin.zeroCells #[.int .u8 0] (cp - 1)) 5)).drew) := hide ⟨((((Box.new _ _ _).step (below_alloc _ _)).step (below_alloc _ _)).step (below_alloc _ _)).drew, ((((below_alloc _ _).trans ((below_alloc _ _).mono (by simp))).trans ((below_alloc _ _).mono (by simp; omega))).trans ((below_alloc _ _).mono (by simp; omega))).drew⟩
    have bT : Boxed ((((w.alloc (.cells #[.bool true, .slice a (lim n).length c] 25)).alloc (.cells #[.slice (some ⟨w.heap.size + 1 + 1 + 1, 0, none⟩) 1 cp] 86)).alloc (.cells #[.int .u8 45] 5)).alloc (.cells (#[.int .u8 45] ++ Builtin.zeroCells #[.int .u8 0] (cp - 1)) 5)).drew (w.heap.size + 1) 86 (.slice (some ⟨w.heap.size + 1 + 1 + 1, 0, none⟩) 1 cp) := by
      have h1 := Boxed.new (w.alloc (.cells #[.bool true, .slice a (lim n).length c] 25)) 86 (.slice (some ⟨w.heap.size + 1 + 1 + 1, 0, none⟩) 1 cp)
      rw [World.size_alloc] at h1
      exact (h1.alloc _).alloc _
    have hrow0 : World.ownsRow ((((w.alloc (.cells #[.bool true, .slice a (lim n).length c] 25)).alloc (.cells #[.slice (some ⟨w.heap.size + 1 + 1 + 1, 0, none⟩) 1 cp] 86)).alloc (.cells #[.int .u8 45] 5)).alloc (.cells (#[.int .u8 45] ++ Builtin.zeroCells #[.int .u8 0] (cp - 1)) 5)).drew (w.heap.size + 1 + 1) 5 1 (.slice (some ⟨w.heap.size + 1 + 1 + 1, 0, none⟩) 1 cp) 1 [.int .u8 45] := by
      refine ⟨rfl, .inr ⟨_, cp, #[.int .u8 45] ++ Builtin.zeroCells #[.int .u8 0] (cp - 1), rfl, by omega, ?_, HCP.out.1, HCP.out.2, ?_, ?_⟩⟩
      · have := heap_alloc_new (((w.alloc (.cells #[.bool true, .slice a (lim n).length c] 25)).alloc (.cells #[.slice (some ⟨w.heap.size + 1 + 1 + 1, 0, none⟩) 1 cp] 86)).alloc (.cells #[.int .u8 45] 5)) (.cells (#[.int .u8 45] ++ Builtin.zeroCells #[.int .u8 0] (cp - 1)) 5)
        rw [show (((w.alloc (.cells #[.bool true, .slice a (lim n).length c] 25)).alloc (.cells #[.slice (some ⟨w.heap.size + 1 + 1 + 1, 0, none⟩) 1 cp] 86)).alloc (.cells #[.int .u8 45] 5)).heap.size = w.heap.size + 1 + 1 + 1 by simp] at this
        exact this
      · have := HCP.out.1; simp [zeroCells_size1]; omega
      · simp
    have HS1 : Hid ((((((w.alloc (.cells #[.bool true, .slice a (lim n).length c] 25)).alloc (.cells #[.slice (some ⟨w.heap.size + 1 + 1 + 1, 0, none⟩) 1 cp] 86)).alloc (.cells #[.int .u8 45] 5)).alloc (.cells (#[.int .u8 45] ++ Builtin.zeroCells #[.int .u8 0] (cp - 1)) 5)).drew).heap.size = w.heap.size + 1 + 1 + 1 + 1) := hide (by simp)
    generalize hW1 : ((((w.alloc (.cells #[.bool true, .slice a (lim n).length c] 25)).alloc (.cells #[.slice (some ⟨w.heap.size + 1 + 1 + 1, 0, none⟩) 1 cp] 86)).alloc (.cells #[.int .u8 45] 5)).alloc (.cells (#[.int .u8 45] ++ Builtin.zeroCells #[.int .u8 0] (cp - 1)) 5)).drew = W1 at *
    clear hW1 bT0
    replace HN := hide (HN.out.below HX.out.2)
    refine (callsIn_wide.2 (digits_any _ (lim n) _ HN.out b1)).mono ?_
    rintro e w2 ⟨bx, gv, rfl, hx1, hx2, hcx, hO, hb2⟩
    rw [val_lim] at hO
    have hsz := hb2.size
    have bT2 : Boxed w2 (w.heap.size + 1) 86 (.slice (some ⟨w.heap.size + 1 + 1 + 1, 0, none⟩) 1 cp) := (hb2.block _ bT.lt).trans bT
    have hrow2 : w2.ownsRow (w.heap.size + 1 + 1) 5 1 (.slice (some ⟨w.heap.size + 1 + 1 + 1, 0, none⟩) 1 cp) 1 [Value.int .u8 45] := ownsRow_below hrow0 hb2
    have hB0 : Below w.heap.size w w2 := HX.out.2.trans (hb2.mono (by have := HX.out.2.size; omega))
    have hs1 := HS1.out
    have hap : AsideV W1.heap.size w2.heap.size (.slice (some ⟨w.heap.size + 1 + 1 + 1, 0, none⟩) 1 cp) := fun j hj => .inl (hrow0.lt j hj).2
    clear hrow0 bT HX
    gi_wp2_with fail
    refine wpIn_rangeFunc_ownG rfl (by omega) (gf := 74) (lb := #[.pointer (some ⟨bx, 0, none⟩)]) rfl trivial (enters_of Try.func74 (by kernel_rfl) rfl)
      (digits_stops 2 (by omega) bx W1.heap.size w2.heap.size W1.heap.size gv (grp n) (grp_lt _) (grp_ne _) w2 hO (Nat.le_refl _) rfl hx1 hx2 hcx) Keeps.trans
      (fun W l o o' hl _ _ _ k _ h2 => by rw [World.putObj_heap_other (by omega)]) (Below.refl _ _) (fun _ => rfl)
      (fun pre W => (∃ v, Boxed W (w.heap.size + 1) 86 v ∧ W.ownsRow (w.heap.size + 1 + 1) 5 1 v (pre.length + 1) ([Value.int .u8 45] ++ bytV pre) ∧ AsideV W1.heap.size w2.heap.size v) ∧ Below w.heap.size w W ∧ w2.heap.size ≤ W.heap.size)
      (fun _ _ _ => False)
      (OwnFrom.and (Go.Own.from (holdsRow_own (w.heap.size + 1 + 1) (w.heap.size + 1) 86 5 1 (fun pre => pre.length + 1) (fun pre => [Value.int .u8 45] ++ bytV pre) (fun _ v => AsideV W1.heap.size w2.heap.size v)) _) (OwnFrom.and (ownFrom_below (by omega) (by omega)) (fun _ _ _ _ hs hg _ => Nat.le_trans hs hg.size)))
      (fun _ _ _ _ _ hs _ _ => hs)
      ⟨⟨_, bT2, hrow2, hap⟩, hB0, Nat.le_refl _⟩
      (fun x => { tmps := #[.agg #[.bool true, .slice a (lim n).length c], .pointer (some ⟨w.heap.size, 0, none⟩), .string { data := #[] }, .pointer (some ⟨w.heap.size + 1, 0, none⟩), .int .i64 (x.1 : Nat), .pointer (some ⟨w.heap.size, 0, none⟩), .bool true, .slice none 0 0, .slice (some ⟨w.heap.size + 1 + 1, 0, none⟩) 1 1, .slice (some ⟨w.heap.size + 1 + 1 + 1, 0, none⟩) 1 cp, .pointer (some ⟨w.heap.size, 1, none⟩), .slice a (lim n).length c, .func (.func 74) #[] #[.pointer (some ⟨bx, 0, none⟩)], .int .i64 (x.1 : Nat), undef, undef, undef, undef, undef, undef, undef, undef], defers := [] }) ?assign ?body ?done ?stop
    case assign =>
      intro l x W K hK
      gi_wp2
      exact hK
    case body =>
      rintro l pre x W ⟨⟨v, hv, hrow, hap⟩, hB, hS⟩ hlt
      have hc := hv.cell
      have hx := x.2
      gi_wp2_with (gi_at_builtin; refine wpListIn_append_at _ rfl _ _ 86 rfl (w.heap.size + 1 + 1) 5 i0 (.int .u8 0) 1 1 Try.underlying86 hi hz0 hz1 hz2 rfl (by decide) _ _ _ rfl (hrow.alloc _) ⟨W.heap.size, 0, none⟩ 1 1 [.int .u8 ((48 : Int) + (x.1 : Int))] rfl rfl (cell_one_new _ _ _) (by simp [Value.oneCell']) (by unfold maxLen; omega) (by omega) (by simp; omega) ?_; intro v' w1 hown' hgrow hbl; obtain ⟨g', cap', rfl⟩ := ownsRow_succ hown'; obtain ⟨hv1, hv2, hr2, hk2, hkk2, hb2, hap2⟩ := boxed_app2 (lo := W1.heap.size) (hi := w2.heap.size) (T := w.heap.size) hv (by decide) hrow hS (by omega) (by omega) (by omega) hap hbl hown' hgrow; have hc1 := hv1.cell; have hf1 := hv1.frozen)
      refine ⟨hk2.from _, hkk2, ⟨⟨_, hv2, ?_, hap2⟩, hB.trans hb2, ?_⟩⟩
      · rw [List.append_assoc, bytV_snoc] at hr2; simpa using hr2
      · have := hgrow.size; simp at this; simp [World.setCell]; omega
    case done =>
      rintro D ys W hD rfl ⟨⟨v, hv, hrow, _⟩, hB, hS⟩ hK
      have hne : (toldD (grp n)).length ≠ 0 := by rw [HL.out, dec_length]; omega
      have hD' : w.heap.size ≤ D := by omega
      rcases hrow.2 with ⟨_, h0⟩ | ⟨g, cap, cur, rfl, _, hgg, _, _, hcs, ht⟩
      · exact absurd h0 (by omega)
      · have hc := hv.cell
        have e1 : [(45 : Int)] ++ (toldD (grp n)).map (fun (x : Dg) => (48 : Int) + (x.1 : Int)) = [(45 : Int)] ++ byts (dec n) := by rw [← byts_of, told_len]
        have hconv := run_convert_bytes_arg (P := Try.prog) W 86 5 Try.underlying86 Try.underlying5 g 0 ((toldD (grp n)).length + 1) cap ([(45 : Int)] ++ byts (dec n)) (by rw [← e1]; simp) (by
          intro i hi
          rw [show 0 + i = i from by omega, hrow.cellAt i (by omega), ← e1]
          cases i with | zero => simp | succ i => simp [bytV, show i < (toldD (grp n)).length by omega]
          ) 9 Try.underlying9
        clear e1 hne
        gi_wp2
        refine ⟨by simp, .inl ⟨_, _, rfl, run_takeDeferred hK, ?_⟩⟩
        exact ⟨_, results_tmp rfl _ _ _, (by refine Eq.trans ?_ (itxt_neg n (by have := H0.out; intro e; exact absurd (this e) (by decide))); rfl), hB.trans (belowK_b (w := w) (Nat.le_refl _) W D _ _ hD' hK rfl rfl)⟩
    case stop =>
      rintro D c pre W _ _ h _
      exact h.elim

end Go.Proofs.Ytgkibmigbjjnnaa
