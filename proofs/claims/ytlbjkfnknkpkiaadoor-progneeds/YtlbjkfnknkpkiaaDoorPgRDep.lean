/- swageref08.Depth. -/
import Derived.Test.YtlbjkfnknkpkiaaDoorPgDep2
import Derived.Test.YtlbjkfnknkpkiaaDoorPgRNeed
namespace Go.Proofs.YtlbjkfnknkpkiaaDoor
open Go.RowKit

theorem OwnO.cellAt {w : World} {base g n c t : Nat} {L : List Int} (h : OwnO w base (.slice (some ⟨g, 0, none⟩) n c) L) (ht : t < L.length) : w.cell? ⟨g, t, none⟩ = some (.int .i64 (ot L t)) := by
  obtain ⟨g', o', hg', hs⟩ := (OwnO.at h).at ht
  simp only [Option.some.injEq, Addr.mk.injEq, and_true] at hg'
  obtain ⟨rfl, rfl⟩ := hg'
  rwa [Nat.zero_add] at hs
theorem OwnO.frozenT {w : World} {base g n c : Nat} {l : List Int} (h : OwnO w base (.slice (some ⟨g, 0, none⟩) n c) l) (k : Nat) : w.frozen? ⟨g, k, none⟩ = false := by
  rcases h.2 with ⟨h0, _⟩ | ⟨g', cap, cur, h0, _⟩
  · cases h0
  · simp only [Value.slice.injEq, Option.some.injEq, Addr.mk.injEq, and_true] at h0
    obtain ⟨rfl, rfl, rfl⟩ := h0
    exact World.ownsRow.frozenAt h k
theorem dAt_nat (L : List Int) (u : Nat) : dAt L (u : Int) = ot L u := by unfold dAt; rw [Int.toNat_natCast]
set_option maxRecDepth 100000 in
set_option maxHeartbeats 16000000 in
theorem rdepth_right (v : Value) (p : Pg) (w : World) (h : PgAt w v p) (hr : rightB p = true) :
    Calls Tryd.prog 24 #[v] w fun e w' => e = .returned (.int .i64 (dep p)) ∧ Below w.heap.size w w' := by
  obtain ⟨i0, hi, hz0, hz1, hz2⟩ := info_parts info_int
  have HP := hide h
  obtain ⟨ca, cc, oa, oc, rfl, hc, ho⟩ := h
  have KC := hide hc
  have KO := hide ho
  clear hc ho
  obtain ⟨p1, p2, p3, p4, p5, p6, p7, p8⟩ := right_parts hr
  have P7 := hide p7
  have P8 := hide p8
  clear p7 p8 hr
  obtain ⟨n, hn⟩ : ∃ n : Nat, p.regs = n := ⟨p.regs.toNat, by omega⟩
  have HN := hide hn
  go_enter Tryd.func24, Tryd.ntmps24
  clear hn
  go_upto_region 1 with fail
  have hb := below_alloc w (.cells #[.int .i64 p.ins, .int .i64 p.regs, .slice ca p.code.length cc, .slice oa p.outs.length oc] 25)
  have PX := hide (Box4.new w 25 (.int .i64 p.ins) (.int .i64 p.regs) (.slice ca p.code.length cc) (.slice oa p.outs.length oc))
  have HB := hide hb
  clear hb HP
  generalize w.alloc (.cells #[.int .i64 p.ins, .int .i64 p.regs, .slice ca p.code.length cc, .slice oa p.outs.length oc] 25) = w2 at *
  obtain ⟨B, hB⟩ : ∃ B, B = w.heap.size := ⟨_, rfl⟩
  have HZ := hide hB
  rw [← hB] at PX ⊢
  clear hB
  have HW2 := hide HB.out.size
  have c1 := PX.out.cell1
  have hn := HN.out
  rw [hn] at c1
  go_wp2_with (at_make; refine wpList_make_full _ rfl _ _ 23 rfl w2.heap.size 3 i0 (.int .i64 0) 1 Tryd.underlying23 hi hz0 hz1 _ _ _ _ n rfl rfl rfl rfl (by rw [hz2]; omega) (by unfold maxLen; omega) (Nat.le_refl _) ?_)
  intro w3 hown hgrow
  have hb : Below w2.heap.size w2 w3 := (Below.refl _ _).grown hgrow (Nat.le_refl _) (fun k hk => by simp at hk)
  replace PX := hide (PX.out.step hb)
  replace HB := hide (HB.out.trans (hb.mono HB.out.size))
  have OD : Hid (OwnO w3 w2.heap.size (.slice (some ⟨w2.heap.size, 0, none⟩) (List.replicate n (0 : Int)).length n) (List.replicate n 0)) := hide (by show World.ownsRow _ _ _ _ _ (List.replicate n (0 : Int)).length _; rw [List.length_replicate, ← made_zero]; simpa using hown)
  clear hown hgrow hb c1
  have WG : Hid (w.heap.size ≤ w2.heap.size) := hide HW2.out
  generalize w2.heap.size = g at *
  rw [List.length_replicate] at OD
  go_upto_region 3 with fail
  clear hn
  have Z0 : Hid (DL p 0 (List.replicate n 0)) := hide ⟨by rw [List.length_replicate]; exact HN.out.symm, fun r _ _ => by unfold dAt; rw [ot_replicate]; exact ⟨rfl, Int.le_refl _, Int.le_refl _⟩⟩
  go_loopw [4, 5, 6, 7] (fun kv _ _ _ wr => ∃ (k : Nat) (L : List Int), k ≤ p.code.length ∧ kv = .int .i64 k ∧ L.length = n ∧ Below w.heap.size w wr ∧ Box4 wr B 25 (.int .i64 p.ins) (.int .i64 p.regs) (.slice ca p.code.length cc) (.slice oa p.outs.length oc) ∧ OwnO wr w.heap.size (.slice (some ⟨g, 0, none⟩) n n) L ∧ DL p k L) (fun kv _ _ _ _ => p.code.length - (intOf kv).toNat)
  case atStart => exact ⟨0, List.replicate n 0, Nat.zero_le _, rfl, List.length_replicate .., HB.out, PX.out, own_base OD.out WG.out, Z0.out⟩
  case round =>
    clear HB PX OD Z0
    obtain ⟨k, L, hk, rfl, hL, hB, hP, hO, hD⟩ := hrel
    have HB := hide hB
    have PX := hide hP
    have OD := hide hO
    have DD := hide hD
    have LL := hide hL
    clear hB hP hO hD hL
    by_cases hlt : k < p.code.length
    · obtain ⟨b, off, rfl, k1⟩ := KC.out.at hlt
      have K1 := hide k1
      replace k1 := k1.step HB.out
      obtain ⟨x, hx⟩ : ∃ x, x = cd p.code k := ⟨_, rfl⟩
      rw [← hx] at k1 K1
      have HX := hide hx
      have MY := hide (P8.out k hlt)
      rw [← hx] at MY
      clear hx
      obtain ⟨t, ht⟩ : ∃ t : Nat, x.to = t := ⟨x.to.toNat, by have := (may_parts MY.out).1; omega⟩
      have HT := hide ht
      have TL : Hid (t < L.length) := hide (by have := (may_parts MY.out).2.1; have := HN.out; have := LL.out; omega)
      clear ht
      have y0 := k1.cell0
      have y1 := k1.cell1
      have y2 := k1.cell2
      have y3 := k1.cell3
      have y4 := k1.cell4
      have c2 := PX.out.cell2
      clear k1
      go_wp2_with fail
      refine (rasks_any x _).mono ?_
      rintro e wa ⟨⟨va, rfl, hva⟩, hb⟩
      clear y0 y1 y2 y3 y4 c2
      replace PX := hide (PX.out.step hb)
      replace OD := hide (own_below OD.out hb)
      replace HB := hide (HB.out.trans (hb.mono HB.out.size))
      clear hb
      have VA := hide hva
      obtain ⟨aa, ac, rfl, _, hal, _⟩ := hva
      unfold maxLen at hal
      have sz := asks_two x
      obtain ⟨d1, d2, d3⟩ := DD.out.dmax (asks_may MY.out)
      have D2 := hide d2
      have D3 := hide d3
      clear d1 d2 d3
      go_upto_region 8 with fail
      go_loopw [5, 7] (fun dv av wr => ∃ a : Nat, a ≤ (asksL x).length ∧ av = .int .i64 a ∧ dv = .int .i64 (dmax (dAt L) ((asksL x).take a)) ∧ wr = wa) (fun _ av _ => (asksL x).length - (intOf av).toNat)
      case atStart => exact ⟨0, Nat.zero_le _, rfl, rfl, rfl⟩
      case round =>
        obtain ⟨a, ha, rfl, rfl, hwr⟩ := hrel
        obtain rfl : wa = wr := hwr.symm
        clear hwr
        by_cases al : a < (asksL x).length
        · obtain ⟨b3, off3, rfl, k3⟩ := VA.out.at al
          have g1 := asks_may MY.out _ (ot_mem al)
          obtain ⟨q, hq⟩ : ∃ q, q = ot (asksL x) a := ⟨_, rfl⟩
          rw [← hq] at k3 g1
          have HQ := hide hq
          clear hq
          obtain ⟨u, rfl⟩ : ∃ u : Nat, q = u := ⟨q.toNat, by omega⟩
          have ul : u < L.length := by have := HN.out; have := LL.out; omega
          have un : u < n := by have := LL.out; omega
          have ku := OwnO.cellAt OD.out ul
          obtain ⟨y, hy⟩ : ∃ y, y = ot L u := ⟨_, rfl⟩
          rw [← hy] at ku
          have HY := hide hy
          clear hy g1 ul
          obtain ⟨m, hm⟩ : ∃ m, m = dmax (dAt L) ((asksL x).take a) := ⟨_, rfl⟩
          rw [← hm]
          have HMM := hide hm
          clear hm
          have NX : Hid (dmax (dAt L) ((asksL x).take (a + 1)) = max m y) := hide (by rw [dmax_take_succ _ _ _ al, ← HQ.out, ← HMM.out, dAt_nat, ← HY.out])
          by_cases hgt : m < y
          · go_wp2
            go_roundw
            case rel => exact ⟨a + 1, by omega, by go_num, by rw [NX.out, Int.max_eq_right (by omega)], trivial⟩
            case measure => simp [intOf]; omega
          · go_wp2
            go_roundw
            case rel => exact ⟨a + 1, by omega, by go_num, by rw [NX.out, Int.max_eq_left (by omega)], trivial⟩
            case measure => simp [intOf]; omega
        · have e : a = (asksL x).length := by omega
          subst e
          rw [List.take_length]
          obtain ⟨D, hDD⟩ : ∃ D, D = dmax (dAt L) (asksL x) := ⟨_, rfl⟩
          rw [← hDD] at D2 D3 ⊢
          have HD := hide hDD
          clear hDD VA
          have k1 := K1.out.step HB.out
          have y1 := k1.cell1
          rw [HT.out] at y1
          have c2 := PX.out.cell2
          have tl := TL.out
          have tn : t < n := by have := LL.out; omega
          have ct := OwnO.cellAt OD.out tl
          have hf := OwnO.frozenT OD.out t
          have d2 := D2.out
          have d3 := D3.out
          have EW : Hid (IntKind.i64.wrap (D + 1) = 1 + D) := hide (by rw [wr64 (by omega) (by omega)]; omega)
          clear k1
          go_wp2
          have ec : D + 1 = 1 + D := by omega
          rw [ec]
          have OS := OwnO.store (w := wa) (base := w.heap.size) (g := g) (c := n) (t := t) (d := 1 + D) (L := L) (by rw [LL.out]; exact OD.out)
          rw [LL.out] at OS
          have ne : g ≠ B := by intro e; subst e; exact box_row_ne PX.out OD.out (by decide) rfl
          refine ⟨⟨k + 1, L.set t (1 + D), by omega, by go_num, by rw [List.length_set]; exact LL.out, HB.out.setCell (p := ⟨g, t, none⟩) WG.out _, PX.out.set_ne ne _, OS, ?_⟩, by simp [intOf]; omega⟩
          rw [HD.out, HX.out]
          exact DD.out.next hlt (by rw [← HX.out]; exact MY.out) (by rw [← HX.out]; exact HT.out)
    · have e : k = p.code.length := by omega
      subst e
      have ED : Hid (dmax (dAt L) p.outs = dep p) := hide (by unfold dep; rw [(DD.out.dmax (l := p.outs) (fun r hr => by obtain ⟨j, hj, rfl⟩ := List.mem_iff_getElem.1 hr; have := P7.out j hj; rwa [ot_lt hj] at this)).1, List.take_length])
      have c2 := PX.out.cell2
      go_upto_region 15 with fail
      clear c2
      go_loopw [8, 9] (fun dv av ws => ∃ a : Nat, a ≤ p.outs.length ∧ av = .int .i64 a ∧ dv = .int .i64 (dmax (dAt L) (p.outs.take a)) ∧ ws = wr) (fun _ av _ => p.outs.length - (intOf av).toNat)
      case atStart => exact ⟨0, Nat.zero_le _, rfl, rfl, rfl⟩
      case round =>
        rename_i wq _ _
        obtain ⟨a, ha, rfl, rfl, hwr⟩ := hrel
        obtain rfl := hwr
        have c3 := PX.out.cell3
        by_cases al : a < p.outs.length
        · obtain ⟨b3, off3, rfl, k3⟩ := (KO.out.below HB.out).at al
          have g1 := P7.out a al
          obtain ⟨q, hq⟩ : ∃ q, q = ot p.outs a := ⟨_, rfl⟩
          rw [← hq] at k3 g1
          have HQ := hide hq
          clear hq
          obtain ⟨u, rfl⟩ : ∃ u : Nat, q = u := ⟨q.toNat, by omega⟩
          have ul : u < L.length := by have := HN.out; have := LL.out; omega
          have un : u < n := by have := LL.out; omega
          have ku := OwnO.cellAt OD.out ul
          obtain ⟨y, hy⟩ : ∃ y, y = ot L u := ⟨_, rfl⟩
          rw [← hy] at ku
          have HY := hide hy
          clear hy g1 ul
          obtain ⟨m, hm⟩ : ∃ m, m = dmax (dAt L) (p.outs.take a) := ⟨_, rfl⟩
          rw [← hm]
          have HMM := hide hm
          clear hm
          have NX : Hid (dmax (dAt L) (p.outs.take (a + 1)) = max m y) := hide (by rw [dmax_take_succ _ _ _ al, ← HQ.out, ← HMM.out, dAt_nat, ← HY.out])
          by_cases hgt : m < y
          · go_wp2
            go_roundw
            case rel => exact ⟨a + 1, by omega, by go_num, by rw [NX.out, Int.max_eq_right (by omega)], trivial⟩
            case measure => simp [intOf]; omega
          · go_wp2
            go_roundw
            case rel => exact ⟨a + 1, by omega, by go_num, by rw [NX.out, Int.max_eq_left (by omega)], trivial⟩
            case measure => simp [intOf]; omega
        · have e : a = p.outs.length := by omega
          subst e
          rw [List.take_length, ED.out]
          go_wp2
          go_ret
          exact ⟨rfl, HB.out⟩
end Go.Proofs.YtlbjkfnknkpkiaaDoor
