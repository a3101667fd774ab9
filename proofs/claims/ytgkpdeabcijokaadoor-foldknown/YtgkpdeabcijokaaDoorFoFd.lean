/- fold.folded: the new code of a program that may be. -/
import Derived.Test.YtgkpdeabcijokaaDoorFoWl
import Derived.Test.YtgkpdeabcijokaaDoorPgJoin1
import Derived.Laws.MakeOwn
namespace Go.Proofs.YtgkpdeabcijokaaDoor
open Go.RowKit

def slLen : Value → Nat
  | .slice _ n _ => n
  | _ => 0
def lastM : List Ins → Ins → Option Ins
  | [], _ => none
  | a :: _, b => meI a b
theorem push_none {S : List Ins} {b : Ins} (h : noB b = false) (hm : lastM S b = none) : pushI S b = b :: S := by
  cases S with
  | nil => exact pushI_nil b h
  | cons a S => exact pushI_stay a S b h hm
theorem push_some {S : List Ins} {b x : Ins} (h : noB b = false) (hm : lastM S b = some x) : ∃ a S', S = a :: S' ∧ meI a b = some x ∧ pushI S b = pushI S' x := by
  cases S with
  | nil => cases hm
  | cons a S => exact ⟨a, S, rfl, hm, pushI_melt a S b x h hm⟩
theorem own_trunc {w : World} {base cap : Nat} {ad : Option Addr} {a : Ins} {S : List Ins} (h : OwnC w base (.slice ad (a :: S).length cap) (a :: S).reverse) :
    ∃ g, ad = some ⟨g, 0, none⟩ ∧ OwnC w base (.slice ad S.length cap) S.reverse := by
  obtain ⟨h1, h2⟩ := h
  rcases h2 with ⟨h2, _⟩ | ⟨g, cap', cur, he, hg, hh, h3, h4, h5, h6⟩
  · simp at h2
  · simp only [Value.slice.injEq] at he
    obtain ⟨rfl, _, rfl⟩ := he
    rw [List.length_reverse, List.length_cons] at h3 h6
    refine ⟨g, rfl, by rw [insCells_length], .inr ⟨g, cap, cur, by rw [List.length_reverse], hg, hh, by rw [List.length_reverse]; omega, h4, h5, ?_⟩⟩
    have e := congrArg (List.take (S.length * 5)) h6
    rw [List.take_take, Nat.min_eq_left (by omega), List.reverse_cons, insCells_append, List.take_append_of_le_length (by rw [insCells_length, List.length_reverse]; omega)] at e
    rw [List.length_reverse, e]
    exact List.take_of_length_le (by rw [insCells_length, List.length_reverse]; omega)
theorem run_makeC (n : Nat) (hn : n ≤ 4000000) (w : World) :
    (Instr.makeSlice 33 (.int .i64 0) (.int .i64 n)).run Tryd.prog w = .ok (.slice (some ⟨w.heap.size, 0, none⟩) 0 n) (w.alloc (.cells (madeCells #[.int .i64 0, .int .i64 0, .int .i64 0, .int .i64 0, .int .i64 0] (n * 5)) 24)) := by
  obtain ⟨i0, hi, hz0, hz1, hz2⟩ := info_parts info_ins
  have hr := run_make (P := Tryd.prog) w 33 24 i0 (.agg #[.int .i64 0, .int .i64 0, .int .i64 0, .int .i64 0, .int .i64 0]) Tryd.underlying33 hi hz0 .i64 .i64 0 n (by omega) (by omega) (by rw [hz2]; omega) (by omega)
  rw [hr]
  simp only [Int.toNat_natCast, hz1]
  rfl
theorem own_made (w : World) (n : Nat) (hn : n ≤ 4000000) : OwnC (w.alloc (.cells (madeCells #[.int .i64 0, .int .i64 0, .int .i64 0, .int .i64 0, .int .i64 0] (n * 5)) 24)) w.heap.size (.slice (some ⟨w.heap.size, 0, none⟩) 0 n) ([] : List Ins) :=
  ⟨rfl, .inr ⟨w.heap.size, n, _, rfl, Nat.le_refl _, heap_alloc_new _ _, Nat.zero_le _, by unfold maxLen; omega, size_madeCells _ _, by simp [insCells]⟩⟩
/-- what a round of the pass keeps -/
structure FS (w wr : World) (v : Value) (S : List Ins) : Prop where
  bel : Below w.heap.size w wr
  own : OwnC wr w.heap.size v S.reverse
  may : ∀ i ∈ S, mayB i 128 = true
theorem FS.step {w wr w' : World} {v : Value} {S : List Ins} (h : FS w wr v S) (hb : Below wr.heap.size wr w') : FS w w' v S := ⟨h.bel.trans (hb.mono h.bel.size), own_below h.own hb, h.may⟩
/-- .. and the round within -/
structure FI (w wr : World) (v : Value) (S : List Ins) (B : Nat) (b : Ins) : Prop where
  fs : FS w wr v S
  box : Box5 wr B 24 b
  mb : mayB b 128 = true
  lt : ∀ g, v.ownBlock = some g → g < B
  ge : w.heap.size ≤ B
theorem FI.step {w wr w' : World} {v : Value} {S : List Ins} {B : Nat} {b : Ins} (h : FI w wr v S B b) (hb : Below wr.heap.size wr w') : FI w w' v S B b := ⟨h.fs.step hb, h.box.step hb, h.mb, h.lt, h.ge⟩
theorem own_put5 {w : World} {base : Nat} {v : Value} {l : List Ins} {C : Nat} (h : OwnC w base v l) (hne : ∀ g, v.ownBlock = some g → g < C) (a b c d e : Value) : OwnC (((((w.setCell ⟨C, 0, none⟩ a).setCell ⟨C, 1, none⟩ b).setCell ⟨C, 2, none⟩ c).setCell ⟨C, 3, none⟩ d).setCell ⟨C, 4, none⟩ e) base v l := by
  have k : ∀ (W : World) (o : Nat) (x : Value), OwnC W base v l → OwnC (W.setCell ⟨C, o, none⟩ x) base v l := by
    intro W o x hW
    obtain ⟨h1, h2⟩ := hW
    refine ⟨h1, ?_⟩
    rcases h2 with h0 | ⟨g, cap, cur, he, hg, hh, r⟩
    · exact .inl h0
    · refine .inr ⟨g, cap, cur, he, hg, ?_, r⟩
      have : g < C := hne g (by rw [he]; rfl)
      show (W.heap.modify C _)[g]? = _
      rw [Array.getElem?_modify, if_neg (by omega)]
      exact hh
  exact k _ _ _ (k _ _ _ (k _ _ _ (k _ _ _ (k _ _ _ h))))
/-- the round's end where two melted -/
theorem FI.melt {w wr : World} {ad : Option Addr} {cap : Nat} {a : Ins} {S : List Ins} {B : Nat} {b x : Ins} (h : FI w wr (.slice ad (a :: S).length cap) (a :: S) B b) (hx : mayB x 128 = true) :
    FI w (((((wr.setCell ⟨B, 0, none⟩ (.int .i64 x.op)).setCell ⟨B, 1, none⟩ (.int .i64 x.to)).setCell ⟨B, 2, none⟩ (.int .i64 x.a)).setCell ⟨B, 3, none⟩ (.int .i64 x.b)).setCell ⟨B, 4, none⟩ (.int .i64 x.c)) (.slice ad S.length cap) S B x := by
  obtain ⟨g, rfl, ho⟩ := own_trunc h.fs.own
  have hl : ∀ g', (Value.slice (some ⟨g, 0, none⟩) S.length cap).ownBlock = some g' → g' < B := fun g' hg' => h.lt g' hg'
  exact ⟨⟨below_put5 h.fs.bel h.ge _ _ _ _ _, own_put5 ho hl _ _ _ _ _, fun i hi => h.fs.may i (by simp [hi])⟩, h.box.put x, hx, hl, h.ge⟩
theorem withLast_own (ad : Option Addr) (cap base : Nat) (S : List Ins) (j : Ins) (w : World) (ho : OwnC w base (.slice ad S.length cap) S.reverse) (hS : ∀ i ∈ S, mayB i 128 = true) (hl : S.length ≤ 100000) (hj : mayB j 128 = true) (hT : TabW64 w) :
    Calls Tryd.prog 25 #[.slice ad S.length cap, .agg #[.int .i64 j.op, .int .i64 j.to, .int .i64 j.a, .int .i64 j.b, .int .i64 j.c]] w fun e w' => e = mlE (lastM S j) ∧ Below w.heap.size w w' := by
  cases S with
  | nil => exact withLast_nil ad cap j w
  | cons a S =>
    obtain ⟨g, rfl, _⟩ := own_trunc ho
    have hc := (OwnC.at ho)
    obtain ⟨a', c', he, _, _, hne⟩ := hc
    obtain ⟨b, off, he2, hc⟩ := hne (by simp)
    simp only [Value.slice.injEq] at he
    rw [← he.1] at he2
    simp only [Option.some.injEq, Addr.mk.injEq] at he2
    obtain ⟨rfl, rfl, _⟩ := he2
    have h1 := hc S.length (by simp)
    have e : cd (a :: S).reverse S.length = a := by rw [cd_lt (by simp)]; simp
    rw [e] at h1
    exact withLast_any g 0 S.length cap a j w (by simp only [List.length_cons] at hl; omega) h1 (hS a (by simp)) hj hT
/-- what fold.folded answers -/
def FoldR (w w' : World) (e : Ending) (l : List Ins) : Prop := ∃ v, e = .returned v ∧ OwnC w' w.heap.size v (fold l)
set_option maxRecDepth 100000 in
set_option maxHeartbeats 8000000 in
theorem folded_any (v : Value) (l : List Ins) (w : World) (h : CodeAt w v l) (hl : l.length ≤ 16384) (hm : ∀ k, k < l.length → mayB (cd l k) 128 = true) (hT : TabW64 w) :
    Calls Tryd.prog 15 #[v] w fun e w' => FoldR w w' e l ∧ Below w.heap.size w w' := by
  have KC := hide h
  have HT := hide hT
  have HM := hide hm
  obtain ⟨ca, cc, rfl, _, _, _⟩ := h
  clear hT hm
  have hmk := run_makeC l.length (by omega)
  go_enter Tryd.func15, Tryd.ntmps15
  go_wp2
  go_step3
  go_wp2
  try (go_step3; go_wp2)
  clear hmk
  have N0 : Hid (FS w (w.alloc (.cells (madeCells #[.int .i64 0, .int .i64 0, .int .i64 0, .int .i64 0, .int .i64 0] (l.length * 5)) 24)) (.slice (some ⟨w.heap.size, 0, none⟩) ([] : List Ins).length l.length) []) := hide ⟨below_alloc _ _, own_made w l.length (by omega), by simp⟩
  generalize w.alloc (.cells (madeCells #[.int .i64 0, .int .i64 0, .int .i64 0, .int .i64 0, .int .i64 0] (l.length * 5)) 24) = w1 at *
  go_loopw [14, 3, 5, 6, 7, 8] (fun kv lv _ _ _ _ wr => ∃ (k : Nat) (S : List Ins) (ad : Option Addr) (cap : Nat), k ≤ l.length ∧ kv = .int .i64 k ∧ lv = .slice ad S.length cap ∧ S = runI (l.take k) ∧ FS w wr (.slice ad S.length cap) S) (fun kv _ _ _ _ _ _ => l.length - (intOf kv).toNat)
  case atStart => exact ⟨0, [], _, _, Nat.zero_le _, rfl, rfl, rfl, N0.out⟩
  case round =>
    clear N0
    obtain ⟨k, S, ad, cap, hk, rfl, rfl, hS, hF⟩ := hrel
    have HF := hide hF
    have HS := hide hS
    have SL : S.length ≤ k := by rw [hS]; exact runI_length l k
    clear hF hS
    by_cases hlt : k < l.length
    · obtain ⟨b, off, rfl, k1⟩ := (KC.out.below HF.out.bel).at hlt
      obtain ⟨x, hx⟩ : ∃ x, x = cd l k := ⟨_, rfl⟩
      rw [← hx] at k1
      have HX := hide hx
      have MX := hide (HM.out k hlt)
      rw [← hx] at MX
      clear hx
      have k10 := k1.cell0
      have k11 := k1.cell1
      have k12 := k1.cell2
      have k13 := k1.cell3
      have k14 := k1.cell4
      clear k1
      go_upto_region 5 with fail
      clear k10 k11 k12 k13 k14
      have hb := below_alloc wr (.cells x.vals 24)
      have IX := hide (Box5.new wr 24 x)
      replace HF := hide (HF.out.step hb)
      clear hb
      unfold Ins.vals at IX HF
      try dsimp only at IX HF
      generalize wr.alloc (.cells #[.int .i64 x.op, .int .i64 x.to, .int .i64 x.a, .int .i64 x.b, .int .i64 x.c] 24) = w2 at *
      generalize wr.heap.size = B5 at *
      have k0 := IX.out.cells.cell0
      have k1 := IX.out.cells.cell1
      have k2 := IX.out.cells.cell2
      have k3 := IX.out.cells.cell3
      have k4 := IX.out.cells.cell4
      simp only [Nat.zero_add] at k1 k2 k3 k4
      go_wp2_with fail
      refine (plain_any x _ MX.out (HT.out.below HF.out.bel)).mono ?_
      rintro e w3 ⟨rfl, hb⟩
      replace HF := hide (HF.out.step hb)
      clear hb k0 k1 k2 k3 k4 IX
      have MY := hide (plI_may MX.out)
      obtain ⟨y, hy⟩ : ∃ y, y = plI x := ⟨_, rfl⟩
      rw [← hy] at MY ⊢
      have HY := hide hy
      clear hy MX
      go_upto_region 6 with fail
      have hb := below_alloc w3 (.cells y.vals 24)
      have BI : Hid (FI w (w3.alloc (.cells y.vals 24)) (.slice ad S.length cap) S w3.heap.size y) := hide ⟨HF.out.step hb, Box5.new w3 24 y, MY.out, fun g hg => (World.ownsRow.lt HF.out.own g hg).2, HF.out.bel.size⟩
      clear hb HF
      unfold Ins.vals at BI
      try dsimp only at BI
      generalize w3.alloc (.cells #[.int .i64 y.op, .int .i64 y.to, .int .i64 y.a, .int .i64 y.b, .int .i64 y.c] 24) = w4 at *
      generalize w3.heap.size = B6 at *
      obtain ⟨T, hTT⟩ : ∃ T, T = pushI S y := ⟨_, rfl⟩
      have GT : Hid (runI (l.take (k + 1)) = T) := hide (by rw [runI_take l k hlt, ← HS.out, ← HX.out, ← HY.out, hTT])
      have PT := hide hTT.symm
      clear hTT HS HX HY MY
      go_loopw [3, 7, 8] (fun lv _ _ wr => ∃ (S' : List Ins) (ad' : Option Addr) (cap' : Nat) (b : Ins), lv = .slice ad' S'.length cap' ∧ S'.length ≤ k ∧ FI w wr (.slice ad' S'.length cap') S' B6 b ∧ pushI S' b = T) (fun lv _ _ _ => slLen lv)
      case atStart => exact ⟨S, ad, cap, y, rfl, SL, BI.out, PT.out⟩
      case round =>
        clear BI PT SL
        obtain ⟨S', ad', cap', b, rfl, sl, hI, hP⟩ := hrel
        have HI := hide hI
        have HP := hide hP
        clear hI hP
        have k0 := HI.out.box.cells.cell0
        have k1 := HI.out.box.cells.cell1
        have k2 := HI.out.box.cells.cell2
        have k3 := HI.out.box.cells.cell3
        have k4 := HI.out.box.cells.cell4
        simp only [Nat.zero_add] at k1 k2 k3 k4
        go_wp2_with fail
        refine (nothing_any b _).mono ?_
        rintro e w5 ⟨rfl, hb⟩
        replace HI := hide (HI.out.step hb)
        clear hb k0 k1 k2 k3 k4
        cases hn : noB b with
        | true =>
          have e := HP.out
          rw [pushI_nothing _ _ hn] at e
          subst e
          go_wp2
          go_roundw
          case rel => exact ⟨k + 1, S', ad', cap', by omega, by go_num, rfl, GT.out.symm, HI.out.fs⟩
          case measure => simp [intOf]; omega
        | false =>
          have HN := hide hn
          clear hn
          have k0 := HI.out.box.cells.cell0
          have k1 := HI.out.box.cells.cell1
          have k2 := HI.out.box.cells.cell2
          have k3 := HI.out.box.cells.cell3
          have k4 := HI.out.box.cells.cell4
          simp only [Nat.zero_add] at k1 k2 k3 k4
          go_wp2_with fail
          refine (withLast_own ad' cap' _ S' b _ HI.out.fs.own HI.out.fs.may (by omega) HI.out.mb (HT.out.below HI.out.fs.bel)).mono ?_
          rintro e w6 ⟨rfl, hb⟩
          replace HI := hide (HI.out.step hb)
          clear hb k0 k1 k2 k3 k4
          unfold mlE
          cases hM : lastM S' b with
          | none =>
            unfold mlV
            dsimp only [Option.getD_none, Option.isSome_none]
            have e := HP.out
            rw [push_none HN.out hM] at e
            subst e
            clear hM HN HP
            go_upto_region 9 with fail
            have hb := below_alloc w6 (.cells #[.int .i64 0, .int .i64 0, .int .i64 0, .int .i64 0, .int .i64 0] 24)
            replace HI := hide (HI.out.step hb)
            clear hb
            generalize w6.alloc (.cells #[.int .i64 0, .int .i64 0, .int .i64 0, .int .i64 0, .int .i64 0] 24) = w7 at *
            have k0 := HI.out.box.cells.cell0
            have k1 := HI.out.box.cells.cell1
            have k2 := HI.out.box.cells.cell2
            have k3 := HI.out.box.cells.cell3
            have k4 := HI.out.box.cells.cell4
            simp only [Nat.zero_add] at k1 k2 k3 k4
            have CC : Hid (CodeAt (w7.alloc (.cells #[.int .i64 b.op, .int .i64 b.to, .int .i64 b.a, .int .i64 b.b, .int .i64 b.c] 24)) (.slice (some ⟨w7.heap.size, 0, none⟩) 1 1) [b]) := hide (code1 w7 b rfl)
            have HA := hide (HI.out.step (below_alloc w7 (.cells #[.int .i64 b.op, .int .i64 b.to, .int .i64 b.a, .int .i64 b.b, .int .i64 b.c] 24)))
            go_wp2_with (at_builtin; refine app_code rfl _ _ rfl w.heap.size _ S'.reverse rfl HA.out.fs.own _ [b] rfl CC.out (by simp only [List.length_reverse, List.length_singleton]; omega) HA.out.fs.bel.size ?_)
            intro v' w8 hown hgrow
            have NF : Hid (FS w w8 v' (b :: S')) := hide ⟨HA.out.fs.bel.grown hgrow HA.out.fs.bel.size (fun g hg => (World.ownsRow.lt HA.out.fs.own g hg).1), by rw [List.reverse_cons]; exact hown, fun i hi => by
              rcases List.mem_cons.1 hi with rfl | hi
              · exact HI.out.mb
              · exact HI.out.fs.may i hi⟩
            obtain ⟨va, vcap, he⟩ := own_slice NF.out.own
            rw [List.length_reverse] at he
            subst he
            clear hown hgrow CC HA HI k0 k1 k2 k3 k4
            go_wp2
            go_roundw
            case rel => exact ⟨k + 1, b :: S', va, vcap, by omega, by go_num, rfl, GT.out.symm, NF.out⟩
            case measure => simp [intOf]; omega
          | some x =>
            unfold mlV
            dsimp only [Option.getD_some, Option.isSome_some]
            obtain ⟨c, S2, rfl, hme, hp⟩ := push_some HN.out hM
            have HP2 := hide (hp.symm.trans HP.out)
            have MX := hide (meI_may (HI.out.fs.may c (by simp)) HI.out.mb hme).1
            obtain ⟨g, rfl, _⟩ := own_trunc HI.out.fs.own
            have hcap : S2.length ≤ cap' := by
              rcases HI.out.fs.own.2 with ⟨h, _⟩ | ⟨_, _, _, h, _, _, h3, _⟩
              · simp at h
              · simp only [Value.slice.injEq] at h; rw [List.length_reverse, List.length_cons] at h3; omega
            have hcm : cap' ≤ 9223372036854775807 := by
              rcases HI.out.fs.own.2 with ⟨h, _⟩ | ⟨_, _, _, h, _, _, _, h4, _⟩
              · simp at h
              · simp only [Value.slice.injEq] at h; unfold maxLen at h4; omega
            clear hme hp HP hM HN
            rw [List.length_cons] at sl
            go_upto_region 10 with fail
            have hb := below_alloc w6 (.cells #[.int .i64 x.op, .int .i64 x.to, .int .i64 x.a, .int .i64 x.b, .int .i64 x.c] 24)
            have BX := hide (Box5.new w6 24 x)
            replace HI := hide (HI.out.step hb)
            clear hb
            unfold Ins.vals at BX
            generalize w6.alloc (.cells #[.int .i64 x.op, .int .i64 x.to, .int .i64 x.a, .int .i64 x.b, .int .i64 x.c] 24) = w7 at *
            generalize w6.heap.size = B7 at *
            have k0 := BX.out.cells.cell0
            have k1 := BX.out.cells.cell1
            have k2 := BX.out.cells.cell2
            have k3 := BX.out.cells.cell3
            have k4 := BX.out.cells.cell4
            simp only [Nat.zero_add] at k1 k2 k3 k4
            have q0 := HI.out.box.cells.cell0
            have q1 := HI.out.box.cells.cell1
            have q2 := HI.out.box.cells.cell2
            have q3 := HI.out.box.cells.cell3
            have q4 := HI.out.box.cells.cell4
            simp only [Nat.zero_add] at q1 q2 q3 q4
            have f0 := HI.out.box.free 0
            have f1 := HI.out.box.free 1
            have f2 := HI.out.box.free 2
            have f3 := HI.out.box.free 3
            have f4 := HI.out.box.free 4
            have m2 : IntKind.i64.wrap (S2.length : Int) = S2.length := by rw [IntKind.wrap_i64]; omega
            have m3 : (S2.length : Int) < (S2.length : Int) + 1 := by omega
            have m4 : (S2.length : Int) ≤ (cap' : Int) := by omega
            go_wp2
            go_roundw
            case rel => exact ⟨S2, some ⟨g, 0, none⟩, cap', x, by simp, by omega, HI.out.melt MX.out, HP2.out⟩
            case measure => simp [slLen]
    · have e : k = l.length := by omega
      subst e
      have HS2 : Hid (S = runI l) := hide (by rw [HS.out, runI_all])
      have KS := hide (OwnC.at HF.out.own)
      go_wp2_with fail
      refine (clonec_any _ S.reverse _ KS.out (by rw [List.length_reverse]; omega)).mono ?_
      rintro e w2 ⟨⟨v', rfl, hown⟩, hb⟩
      have HO := hide (own_base hown HF.out.bel.size)
      have HB := hide (HF.out.bel.trans (hb.mono HF.out.bel.size))
      obtain ⟨va, vcap, he⟩ := own_slice hown
      rw [List.length_reverse] at he
      subst he
      clear hown hb
      go_wp2
      try rw [Exit.noGoto_ret]
      go_ret
      exact ⟨⟨_, rfl, by unfold fold; rw [← HS2.out]; exact HO.out⟩, HB.out⟩
end Go.Proofs.YtgkpdeabcijokaaDoor
