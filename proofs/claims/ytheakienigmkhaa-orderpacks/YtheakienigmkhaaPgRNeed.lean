/- Rows of truths in memory of one's own; swageref08.Needed. -/
import Derived.Test.YtheakienigmkhaaPgNMath
import Derived.Test.YtheakienigmkhaaPgCnt
namespace Go.Proofs.Ytheakienigmkhaa
open Go.RowKit

def boolCells (l : List Bool) : List Value := l.map Value.bool
def bl (l : List Bool) (k : Nat) : Bool := l.getD k false
theorem boolCells_get (l : List Bool) (k : Nat) (h : k < l.length) : (boolCells l)[k]? = some (.bool (bl l k)) := by
  simp [boolCells, bl, h]
abbrev OwnB (w : World) (base : Nat) (v : Value) (l : List Bool) : Prop := w.ownsRow base 4 1 v l.length (boolCells l)
theorem OwnB.cell {w : World} {base g n c : Nat} {l : List Bool} (h : OwnB w base (.slice (some ⟨g, 0, none⟩) n c) l) {k : Nat} (hk : k < l.length) : w.cell? ⟨g, k, none⟩ = some (.bool (bl l k)) := by
  rcases h.2 with ⟨h0, _⟩ | ⟨g', cap, cur, h0, _, _, _, _, _⟩
  · cases h0
  · simp only [Value.slice.injEq, Option.some.injEq, Addr.mk.injEq, and_true] at h0
    obtain ⟨rfl, rfl, rfl⟩ := h0
    have a0 := h.cells (g := g) rfl _ _ (boolCells_get l k hk)
    have hadd : ∀ j, (⟨g, 0, none⟩ : Addr).add j = ⟨g, 0 + j, none⟩ := fun j => by unfold Addr.add; split <;> simp_all
    rw [hadd, Nat.zero_add] at a0
    exact a0
theorem OwnB.frozen {w : World} {base g n c : Nat} {l : List Bool} (h : OwnB w base (.slice (some ⟨g, 0, none⟩) n c) l) (k : Nat) : w.frozen? ⟨g, k, none⟩ = false := by
  rcases h.2 with ⟨h0, _⟩ | ⟨g', cap, cur, h0, _⟩
  · cases h0
  · simp only [Value.slice.injEq, Option.some.injEq, Addr.mk.injEq, and_true] at h0
    obtain ⟨rfl, rfl, rfl⟩ := h0
    exact World.ownsRow.frozenAt h k
theorem OwnB.store {w : World} {base g c n t : Nat} {d : Bool} {L : List Bool} (h : OwnB w base (.slice (some ⟨g, 0, none⟩) n c) L) : OwnB (w.setCell ⟨g, t, none⟩ (.bool d)) base (.slice (some ⟨g, 0, none⟩) n c) (L.set t d) := by
  have e : (L.set t d).length = L.length := List.length_set ..
  show World.ownsRow _ _ _ _ _ (L.set t d).length _
  rw [e]
  refine ⟨by simp [boolCells], .inr ?_⟩
  rcases h.2 with ⟨h0, _⟩ | ⟨g', cap, cur, h0, hg, hh, h1, h2, h3, h4⟩
  · cases h0
  · simp only [Value.slice.injEq, Option.some.injEq, Addr.mk.injEq, and_true] at h0
    obtain ⟨rfl, rfl, rfl⟩ := h0
    refine ⟨g, c, cur.setIfInBounds t (.bool d), rfl, hg, ?_, h1, h2, by simpa using h3, ?_⟩
    · obtain ⟨hlt, hk⟩ := Array.getElem?_eq_some_iff.1 hh
      show (w.heap.modify g _)[g]? = _
      rw [Array.getElem?_eq_getElem (by rw [Array.size_modify]; exact hlt), Array.getElem_modify_self, hk]
      rfl
    · rw [Array.toList_setIfInBounds, List.take_set, h4]
      simp [boolCells, List.map_set]
theorem made_false (n : Nat) : (madeCells #[.bool false] n).toList = boolCells (List.replicate n false) := by
  rw [toList_madeCells_one]; simp [boolCells]
theorem info_bool : (Try.prog.info? 4).map (fun i => (i.zero, i.size, i.bytes)) = some (some (.bool false), 1, 1) := by kernel_rfl
theorem bl_set {L : List Bool} {t j : Nat} {d : Bool} (h : t < L.length) : bl (L.set t d) j = if j = t then d else bl L j := by
  unfold bl
  rw [List.getD_eq_getElem?_getD, List.getElem?_set]
  by_cases e : j = t
  · subst e; simp [h]
  · rw [if_neg (fun h => e h.symm), if_neg e, List.getD_eq_getElem?_getD]
theorem bl_replicate (n k : Nat) : bl (List.replicate n false) k = false := by
  unfold bl
  rw [List.getD_eq_getElem?_getD, List.getElem?_replicate]
  split <;> rfl
theorem bl_ext {L M : List Bool} (h : L.length = M.length) (he : ∀ k, k < L.length → bl L k = bl M k) : L = M := by
  refine List.ext_getElem h fun k h1 h2 => ?_
  have := he k h1
  unfold bl at this
  rw [List.getD_eq_getElem?_getD, List.getElem?_eq_getElem h1, List.getD_eq_getElem?_getD, List.getElem?_eq_getElem h2] at this
  exact this
theorem OwnB.ne_box {w : World} {base g n c b : Nat} {l : List Bool} {t : TypeId} {x y z u : Value} (h : OwnB w base (.slice (some ⟨g, 0, none⟩) n c) l) (hb : Box4 w b t x y z u) (ht : t ≠ 4) : g ≠ b := by
  rintro rfl
  rcases h.2 with ⟨h0, _⟩ | ⟨g', cap, cur, h0, _, hh, _⟩
  · cases h0
  · simp only [Value.slice.injEq, Option.some.injEq, Addr.mk.injEq, and_true] at h0
    obtain ⟨rfl, _, _⟩ := h0
    rw [show w.heap[g]? = _ from hb] at hh
    simp only [Option.some.injEq, Obj.cells.injEq] at hh
    exact ht hh.2.1
/-- the state of a walk: what was there, the program's box, the row -/
structure NE (w wr : World) (B g n : Nat) (x y z u : Value) (L : List Bool) : Prop where
  below : Below w.heap.size w wr
  box : Box4 wr B 25 x y z u
  own : OwnB wr w.heap.size (.slice (some ⟨g, 0, none⟩) n n) L
  len : L.length = n
  new : w.heap.size ≤ g
theorem NE.step {w wr wr' : World} {B g n : Nat} {x y z u : Value} {L : List Bool} (h : NE w wr B g n x y z u L) (hb : Below wr.heap.size wr wr') : NE w wr' B g n x y z u L :=
  ⟨h.below.trans (hb.mono h.below.size), h.box.step hb, own_below h.own hb, h.len, h.new⟩
theorem NE.store {w wr : World} {B g n t : Nat} {x y z u : Value} {L : List Bool} {d : Bool} (h : NE w wr B g n x y z u L) : NE w (wr.setCell ⟨g, t, none⟩ (.bool d)) B g n x y z u (L.set t d) :=
  ⟨h.below.setCell (p := ⟨g, t, none⟩) h.new _, h.box.set_ne (h.own.ne_box h.box (by decide)) _, h.own.store, by rw [List.length_set]; exact h.len, h.new⟩
theorem asks_two (x : Ins) : (asksL x).length ≤ 2 := by
  unfold asksL
  split
  · simp
  · split <;> simp
theorem ot_take_mem {l : List Int} {r : Int} {a : Nat} (h : a < l.length) : decide (r ∈ l.take (a + 1)) = (decide (r ∈ l.take a) || decide (ot l a = r)) := by
  rw [List.take_succ_eq_append_getElem h, ot_lt h]
  rw [Bool.eq_iff_iff]
  simp only [decide_eq_true_eq, List.mem_append, List.mem_singleton, Bool.or_eq_true]
  exact or_congr Iff.rfl eq_comm
theorem OwnB.no_int {w : World} {base g n j : Nat} {l : List Bool} {x : Int} (h : OwnB w base (.slice (some ⟨g, 0, none⟩) n n) l) (hl : l.length = n) (hc : w.cell? ⟨g, j, none⟩ = some (.int .i64 x)) : False := by
  by_cases hj : j < l.length
  · rw [h.cell hj] at hc; cases hc
  · rcases h.2 with ⟨h0, _⟩ | ⟨g', cap, cur, h0, hg, hh, h1, h2, h3, h4⟩
    · cases h0
    · simp only [Value.slice.injEq, Option.some.injEq, Addr.mk.injEq, and_true] at h0
      obtain ⟨rfl, _, rfl⟩ := h0
      simp only [World.cell?, hh] at hc
      have := (Array.getElem?_eq_some_iff.1 hc).1
      omega
theorem IntsAt.below_store {w wr : World} {B g n t : Nat} {x y z u v : Value} {L : List Bool} {l : List Int} {d : Bool} (h : IntsAt wr v l) (hn : NE w wr B g n x y z u L) : IntsAt (wr.setCell ⟨g, t, none⟩ (.bool d)) v l := by
  obtain ⟨a, cap, h1, h2, h3, h4⟩ := h
  refine ⟨a, cap, h1, h2, h3, fun hne => ?_⟩
  obtain ⟨b, off, e, hc⟩ := h4 hne
  refine ⟨b, off, e, fun i hi => ?_⟩
  have hb : b ≠ g := by rintro rfl; exact hn.own.no_int hn.len (hc i hi)
  rw [World.cell?_of_block (Below.heap_setCell wr ⟨g, t, none⟩ (.bool d) b hb)]
  exact hc i hi
set_option maxRecDepth 100000 in
set_option maxHeartbeats 16000000 in
theorem rneeded_right (v : Value) (p : Pg) (w : World) (h : PgAt w v p) (hr : rightB p = true) :
    Calls Try.prog 21 #[v] w fun e w' => ∃ g, e = .returned (.slice (some ⟨g, 0, none⟩) p.code.length p.code.length) ∧ OwnB w' w.heap.size (.slice (some ⟨g, 0, none⟩) p.code.length p.code.length) (ndL p) ∧ Below w.heap.size w w' := by
  obtain ⟨i0, hi, hz0, hz1, hz2⟩ := info_parts info_bool
  obtain ⟨p1, p2, p3, p4, p5, p6, p7, p8⟩ := right_parts hr
  clear p7 p8 hr
  have HP := hide h
  obtain ⟨ca, cc, oa, oc, rfl, hc, ho⟩ := h
  have KC := hide hc
  have KO := hide ho
  clear hc ho
  go_enter Try.func21, Try.ntmps21
  go_upto_region 1 with fail
  have hb := below_alloc w (.cells #[.int .i64 p.ins, .int .i64 p.regs, .slice ca p.code.length cc, .slice oa p.outs.length oc] 25)
  have PX := hide (Box4.new w 25 (.int .i64 p.ins) (.int .i64 p.regs) (.slice ca p.code.length cc) (.slice oa p.outs.length oc))
  have HB := hide hb
  clear hb
  generalize w.alloc (.cells #[.int .i64 p.ins, .int .i64 p.regs, .slice ca p.code.length cc, .slice oa p.outs.length oc] 25) = w1 at *
  obtain ⟨B, hB⟩ : ∃ B, B = w.heap.size := ⟨_, rfl⟩
  have HZ := hide hB
  rw [← hB] at PX ⊢
  clear hB
  clear HP
  have c0 := PX.out.cell0
  have c1 := PX.out.cell1
  have c2 := PX.out.cell2
  have c3 := PX.out.cell3
  go_wp2_with (at_make; refine wpList_make_full _ rfl _ _ 53 rfl w1.heap.size 4 i0 (.bool false) 1 Try.underlying53 hi hz0 hz1 _ _ _ _ p.code.length rfl rfl rfl rfl (by rw [hz2]; omega) (by unfold maxLen; omega) (Nat.le_refl _) ?_)
  intro w3 hown hgrow
  have hb : Below w1.heap.size w1 w3 := (Below.refl _ _).grown hgrow (Nat.le_refl _) (fun k hk => by simp at hk)
  have LN : (List.replicate p.code.length false).length = p.code.length := List.length_replicate ..
  have N0 : Hid (NE w w3 B w1.heap.size p.code.length (.int .i64 p.ins) (.int .i64 p.regs) (.slice ca p.code.length cc) (.slice oa p.outs.length oc) (List.replicate p.code.length false)) := hide ⟨HB.out.trans (hb.mono HB.out.size), PX.out.step hb, own_base (by show World.ownsRow _ _ _ _ _ (List.replicate p.code.length false).length _; rw [LN, ← made_false]; simpa using hown) HB.out.size, LN, HB.out.size⟩
  clear hown hgrow hb LN c0 c1 c2 c3 HB PX
  generalize w1.heap.size = g at *
  have c2 := N0.out.box.cell2
  go_upto_region 3 with fail
  clear c2
  go_loopw [4, 5, 6, 7, 8, 9, 10] (fun kv _ _ _ _ _ _ wr => ∃ (m : Nat) (L : List Bool), m ≤ p.code.length ∧ kv = .int .i64 ((m : Int) - 1) ∧ NE w wr B g p.code.length (.int .i64 p.ins) (.int .i64 p.regs) (.slice ca p.code.length cc) (.slice oa p.outs.length oc) L ∧ (∀ j, m ≤ j → j < p.code.length → bl L j = bl (ndL p) j) ∧ (∀ j, j < m → bl L j = false)) (fun kv _ _ _ _ _ _ _ => (intOf kv + 1).toNat)
  case atStart => exact ⟨p.code.length, _, Nat.le_refl _, by go_num, N0.out, fun j h1 h2 => absurd h2 (by omega), fun j _ => bl_replicate _ _⟩
  case round =>
    clear N0
    obtain ⟨m, L, hm, rfl, hN, hQ, hF⟩ := hrel
    have NN := hide hN
    have QQ := hide hQ
    have FF := hide hF
    clear hN hQ hF
    by_cases hm0 : m = 0
    · subst hm0
      go_wp2
      go_ret
      refine ⟨g, rfl, ?_, NN.out.below⟩
      have e : L = ndL p := bl_ext (by rw [NN.out.len]; exact (need_length _ _).symm) (fun k hk => QQ.out k (Nat.zero_le _) (by rw [← NN.out.len]; exact hk))
      rw [← e]
      exact NN.out.own
    · obtain ⟨k, rfl⟩ : ∃ k, m = k + 1 := ⟨m - 1, by omega⟩
      clear hm0
      rw [show ((k + 1 : Nat) : Int) - 1 = k from by omega]
      have kl : k < p.code.length := hm
      obtain ⟨b, off, hca, k1⟩ := KC.out.at kl
      subst hca
      have K1 := hide (k1.step NN.out.below)
      clear k1
      obtain ⟨r, hrr⟩ : ∃ r, r = (cd p.code k).to := ⟨_, rfl⟩
      have HR := hide hrr
      have HR := hide hrr
      clear hrr
      have z1 := K1.out.cell1
      rw [← HR.out] at z1
      have c2 := NN.out.box.cell2
      go_upto_region 8 with fail
      clear z1 c2 K1
      go_loopw [7, 6, 8, 9] (fun jv ov _ _ wr => ∃ (j : Nat) (ov' acc : Bool) (L' : List Bool), k + 1 ≤ j ∧ j ≤ p.code.length ∧ jv = .int .i64 j ∧ ov = .bool ov' ∧ NE w wr B g p.code.length (.int .i64 p.ins) (.int .i64 p.regs) (.slice (some ⟨b, off, none⟩) p.code.length cc) (.slice oa p.outs.length oc) L' ∧ bl L' k = acc ∧ (∀ i, i ≠ k → bl L' i = bl L i) ∧ fwd p.outs r (p.code.drop (k + 1)) ((ndL p).drop (k + 1)) = (acc || (!ov' && fwd p.outs r (p.code.drop j) ((ndL p).drop j)))) (fun jv _ _ _ _ => p.code.length - (intOf jv).toNat)
      case atStart => exact ⟨k + 1, false, false, L, Nat.le_refl _, hm, by go_num, rfl, NN.out, FF.out k (by omega), fun _ _ => rfl, by simp⟩
      case round =>
        obtain ⟨j, ov, acc, L', hj1, hj2, rfl, rfl, hN, hA, hO, hI⟩ := hrel
        have N1 := hide hN
        have A1 := hide hA
        have O1 := hide hO
        have I1 := hide hI
        clear hN hA hO hI
        have c2 := N1.out.box.cell2
        have DONE : Hid ((ov = true ∨ j = p.code.length) → ov = true ∨ fwd p.outs r (p.code.drop j) ((ndL p).drop j) = decide (r ∈ p.outs)) := hide (fun h => h.elim .inl (fun e => .inr (by rw [e, List.drop_length]; unfold fwd; rfl)))
        by_cases hgo : ov = false ∧ j < p.code.length
        · obtain ⟨rfl, jl⟩ := hgo
          have k2 := (KC.out.at jl)
          obtain ⟨b2, off2, hb2, k2⟩ := k2
          simp only [Option.some.injEq, Addr.mk.injEq, and_true] at hb2
          obtain ⟨rfl, rfl⟩ := hb2
          replace k2 := k2.step N1.out.below
          obtain ⟨x, hx⟩ : ∃ x, x = cd p.code j := ⟨_, rfl⟩
          rw [← hx] at k2
          have HX := hide hx
          clear hx
          have y0 := k2.cell0
          have y1 := k2.cell1
          have y2 := k2.cell2
          have y3 := k2.cell3
          have y4 := k2.cell4
          clear k2
          go_wp2_with fail
          refine (rasks_any x _).mono ?_
          rintro e wa ⟨⟨va, rfl, hva⟩, hb⟩
          clear y0 y1 y2 y3 y4 c2
          replace N1 := hide (N1.out.step hb)
          clear hb
          have VA := hide hva
          obtain ⟨aa, ac, rfl, _, hal, _⟩ := hva
          unfold maxLen at hal
          have sz := asks_two x
          go_upto_region 12 with fail
          go_loopw [9] (fun av wr => ∃ (a : Nat) (L2 : List Bool), a ≤ (asksL x).length ∧ av = .int .i64 a ∧ NE w wr B g p.code.length (.int .i64 p.ins) (.int .i64 p.regs) (.slice (some ⟨b, off, none⟩) p.code.length cc) (.slice oa p.outs.length oc) L2 ∧ bl L2 k = (acc || (bl (ndL p) j && decide (r ∈ (asksL x).take a))) ∧ (∀ i, i ≠ k → bl L2 i = bl L i) ∧ IntsAt wr (.slice aa (asksL x).length ac) (asksL x)) (fun av _ => (asksL x).length - (intOf av).toNat)
          case atStart => exact ⟨0, L', Nat.zero_le _, rfl, N1.out, by rw [A1.out]; simp, O1.out, VA.out⟩
          case round =>
            clear N1 VA A1
            obtain ⟨a, L2, ha, rfl, hN, hA, hO, hV⟩ := hrel
            have N2 := hide hN
            have A2 := hide hA
            have O2 := hide hO
            have VA := hide hV
            clear hN hA hO hV
            by_cases al : a < (asksL x).length
            · obtain ⟨b3, off3, rfl, k3⟩ := VA.out.at al
              have jne : j ≠ k := by omega
              have kj := N2.out.own.cell (k := j) (by rw [N2.out.len]; exact jl)
              have kk := N2.out.own.cell (k := k) (by rw [N2.out.len]; exact kl)
              have fk := N2.out.own.frozen k
              have ej : bl L2 j = bl (ndL p) j := (O2.out j jne).trans (QQ.out j hj1 jl)
              rw [ej] at kj
              clear ej
              have TK := hide (ot_take_mem (r := r) al)
              obtain ⟨q, hq⟩ : ∃ q, q = ot (asksL x) a := ⟨_, rfl⟩
              rw [← hq] at k3 TK
              clear hq
              obtain ⟨nj, hnj⟩ : ∃ nj, nj = bl (ndL p) j := ⟨_, rfl⟩
              rw [← hnj] at kj A2
              have HNJ := hide hnj
              clear hnj
              by_cases hqr : q = r
              · subst hqr
                cases nj with
                | true =>
                  go_wp2
                  go_roundw
                  case rel => exact ⟨a + 1, L2.set k true, by omega, by go_num, N2.out.store, by rw [bl_set (by rw [N2.out.len]; exact kl), if_pos rfl, ← HNJ.out, TK.out]; simp, fun i hi => by rw [bl_set (by rw [N2.out.len]; exact kl), if_neg hi]; exact O2.out i hi, VA.out.below_store N2.out⟩
                  case measure => simp [intOf]; omega
                | false =>
                  go_wp2
                  go_roundw
                  case rel => exact ⟨a + 1, L2, by omega, by go_num, N2.out, by rw [← HNJ.out, A2.out]; simp, O2.out, VA.out⟩
                  case measure => simp [intOf]; omega
              · have hq' : (q == r) = false := by simpa using hqr
                go_wp2
                go_roundw
                case rel => exact ⟨a + 1, L2, by omega, by go_num, N2.out, by rw [← HNJ.out, A2.out, TK.out]; simp [hqr], O2.out, VA.out⟩
                case measure => simp [intOf]; omega
            · have e : a = (asksL x).length := by omega
              subst e
              rw [List.take_length] at A2
              clear VA
              have k2 := (KC.out.at jl)
              obtain ⟨b2, off2, hb2, k2⟩ := k2
              simp only [Option.some.injEq, Addr.mk.injEq, and_true] at hb2
              obtain ⟨rfl, rfl⟩ := hb2
              replace k2 := k2.step N2.out.below
              rw [← HX.out] at k2
              have y1 := k2.cell1
              clear k2
              have c2 := N2.out.box.cell2
              obtain ⟨ov2, hov⟩ : ∃ ov2, ov2 = (x.to == r) := ⟨_, rfl⟩
              have HOV := hide hov
              go_wp2
              go_roundw
              case rel =>
                refine ⟨j + 1, x.to == r, _, L2, by omega, jl, by go_num, rfl, N2.out, rfl, O2.out, ?_⟩
                rw [I1.out, A2.out, drop_cd _ _ jl, ← HX.out]
                have hd : (ndL p).drop j = bl (ndL p) j :: (ndL p).drop (j + 1) := by rw [List.drop_eq_getElem_cons (by rw [show (ndL p).length = _ from need_length _ _]; exact jl)]; unfold bl; rw [List.getD_eq_getElem?_getD, List.getElem?_eq_getElem (by rw [show (ndL p).length = _ from need_length _ _]; exact jl)]; rfl
                rw [hd]
                simp only [fwd]
                by_cases e1 : x.to = r
                · simp [e1]
                · have e2 : (x.to == r) = false := by simpa using e1
                  simp [e1, e2, Bool.or_assoc]
              case measure => simp [intOf]; omega
        · have HOV := hide (DONE.out (by cases ov with | true => exact .inl rfl | false => exact .inr (by have : ¬ j < p.code.length := fun h => hgo ⟨rfl, h⟩; omega)))
          have hcond : ¬ (ov = false ∧ j < p.code.length) := hgo
          clear hgo DONE
          have LAST : Hid (∀ (wr : World) (L2 : List Bool), bl L2 k = (acc || (!ov && decide (r ∈ p.outs))) → (∀ i, i ≠ k → bl L2 i = bl L i) → (∀ i, k ≤ i → i < p.code.length → bl L2 i = bl (ndL p) i) ∧ (∀ i, i < k → bl L2 i = false)) := hide (by
            intro wr L2 h1 h2
            refine ⟨fun i i1 i2 => ?_, fun i i1 => by rw [h2 i (by omega)]; exact FF.out i (by omega)⟩
            by_cases e : i = k
            · subst e
              rw [h1]
              have e1 : bl (ndL p) i = fwd p.outs r (p.code.drop (i + 1)) ((ndL p).drop (i + 1)) := by
                unfold ndL bl
                rw [need_get _ _ _ kl, ← need_drop, fwd_need, HR.out]
              rw [e1, I1.out]
              rcases HOV.out with e2 | e2
              · rw [e2]; simp
              · rw [e2]
            · rw [h2 i e]; exact QQ.out i (by omega) i2)
          cases ov with
          | true =>
            have c3 := N1.out.box.cell3
            by_cases hjl : j < p.code.length
            · go_upto_region 17 with fail
              go_wp2
              refine wp_loop_rounds 1 ?_
              rw [rounds_succ]
              have hol : 0 < p.outs.length := by omega
              go_wp2
              go_roundw
              case rel =>
                obtain ⟨g1, g2⟩ := LAST.out wr L' (by rw [A1.out]; simp) O1.out
                exact ⟨k, L', by omega, by go_num, N1.out, g1, g2⟩
              case measure => simp [intOf]
            · go_upto_region 17 with fail
              go_wp2
              refine wp_loop_rounds 1 ?_
              rw [rounds_succ]
              have hol : 0 < p.outs.length := by omega
              go_wp2
              go_roundw
              case rel =>
                obtain ⟨g1, g2⟩ := LAST.out wr L' (by rw [A1.out]; simp) O1.out
                exact ⟨k, L', by omega, by go_num, N1.out, g1, g2⟩
              case measure => simp [intOf]
          | false =>
            have e : j = p.code.length := by have : ¬ j < p.code.length := fun h => hcond ⟨rfl, h⟩; omega
            subst e
            clear hcond
            go_upto_region 18 with fail
            clear c2
            go_loopw [10] (fun av wr => ∃ (a : Nat) (L2 : List Bool), a ≤ p.outs.length ∧ av = .int .i64 a ∧ NE w wr B g p.code.length (.int .i64 p.ins) (.int .i64 p.regs) (.slice (some ⟨b, off, none⟩) p.code.length cc) (.slice oa p.outs.length oc) L2 ∧ bl L2 k = (acc || decide (r ∈ p.outs.take a)) ∧ (∀ i, i ≠ k → bl L2 i = bl L i)) (fun av _ => p.outs.length - (intOf av).toNat)
            case atStart => exact ⟨0, L', Nat.zero_le _, rfl, N1.out, by rw [A1.out]; simp, O1.out⟩
            case round =>
              clear N1 A1
              obtain ⟨a, L2, ha, rfl, hN, hA, hO⟩ := hrel
              have N2 := hide hN
              have A2 := hide hA
              have O2 := hide hO
              clear hN hA hO
              have c3 := N2.out.box.cell3
              by_cases al : a < p.outs.length
              · obtain ⟨b3, off3, rfl, k3⟩ := (KO.out.below N2.out.below).at al
                have kk := N2.out.own.cell (k := k) (by rw [N2.out.len]; exact kl)
                have fk := N2.out.own.frozen k
                have TK := hide (ot_take_mem (r := r) al)
                obtain ⟨q, hq⟩ : ∃ q, q = ot p.outs a := ⟨_, rfl⟩
                rw [← hq] at k3 TK
                clear hq
                by_cases hqr : q = r
                · subst hqr
                  go_wp2
                  go_roundw
                  case rel => exact ⟨a + 1, L2.set k true, by omega, by go_num, N2.out.store, by rw [bl_set (by rw [N2.out.len]; exact kl), if_pos rfl, TK.out]; simp, fun i hi => by rw [bl_set (by rw [N2.out.len]; exact kl), if_neg hi]; exact O2.out i hi⟩
                  case measure => simp [intOf]; omega
                · have hq' : (q == r) = false := by simpa using hqr
                  go_wp2
                  go_roundw
                  case rel => exact ⟨a + 1, L2, by omega, by go_num, N2.out, by rw [A2.out, TK.out]; simp [hqr], O2.out⟩
                  case measure => simp [intOf]; omega
              · have e : a = p.outs.length := by omega
                subst e
                rw [List.take_length] at A2
                go_wp2
                go_roundw
                case rel =>
                  obtain ⟨g1, g2⟩ := LAST.out wr L2 (by rw [A2.out]; simp) O2.out
                  exact ⟨k, L2, by omega, by go_num, N2.out, g1, g2⟩
                case measure => simp [intOf]
end Go.Proofs.Ytheakienigmkhaa
