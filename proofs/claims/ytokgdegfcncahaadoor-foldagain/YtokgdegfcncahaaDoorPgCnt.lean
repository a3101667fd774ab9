/- How many instructions of each kind: prog.Count, swageref08.Count. -/
import Derived.Test.YtokgdegfcncahaaDoorPgJoin1
import Derived.Test.YtokgdegfcncahaaDoorPgChecksWalk
namespace Go.Proofs.YtokgdegfcncahaaDoor
open Go.RowKit

def cls (op : Int) : Nat := if op = 1 then 0 else if op ≤ 4 then 1 else if op = 5 then 2 else if op = 6 then 3 else 4
def cnt (j : Nat) (l : List Ins) : Int := (l.countP (fun i => cls i.op == j) : Nat)
/-- the five counts, as five numbers -/
def cntI (l : List Ins) : Ins := ⟨cnt 0 l, cnt 1 l, cnt 2 l, cnt 3 l, cnt 4 l⟩
theorem cnt_take (j : Nat) (l : List Ins) (k : Nat) (h : k < l.length) : cnt j (l.take (k + 1)) = cnt j (l.take k) + (if cls (cd l k).op = j then 1 else 0) := by
  unfold cnt
  rw [List.take_succ_eq_append_getElem h, List.countP_append, cd_lt h]
  simp only [List.countP_cons, List.countP_nil, Nat.zero_add, beq_iff_eq]
  split <;> simp
theorem cnt_nonneg (j : Nat) (l : List Ins) : 0 ≤ cnt j l := by unfold cnt; omega
theorem cnt_le (j : Nat) (l : List Ins) : cnt j l ≤ l.length := by unfold cnt; have := List.countP_le_length (p := fun i : Ins => cls i.op == j) (l := l); omega
theorem Box5.setAt {W : World} {B : Nat} {t : TypeId} {i : Ins} (h : Box5 W B t i) (o : Nat) (c : Value) : (W.setCell ⟨B, o, none⟩ c).heap[B]? = some (.cells (i.vals.setIfInBounds o c) t (0, 0)) := by
  obtain ⟨hlt, hk⟩ := Array.getElem?_eq_some_iff.1 h
  show (W.heap.modify B _)[B]? = _
  rw [Array.getElem?_eq_getElem (by rw [Array.size_modify]; exact hlt), Array.getElem_modify_self, hk]
  rfl
theorem cntI_set0 (l : List Ins) (k : Nat) (h : k < l.length) (hc : cls (cd l k).op = 0) {W : World} {B : Nat} {t : TypeId} (hb : Box5 W B t (cntI (l.take k))) : Box5 (W.setCell ⟨B, 0, none⟩ (.int .i64 (cnt 0 (l.take k) + 1))) B t (cntI (l.take (k + 1))) := by
  refine (hb.setAt 0 _).trans ?_
  unfold cntI Ins.vals
  simp only [cnt_take _ l k h, hc]
  rfl
theorem cntI_set1 (l : List Ins) (k : Nat) (h : k < l.length) (hc : cls (cd l k).op = 1) {W : World} {B : Nat} {t : TypeId} (hb : Box5 W B t (cntI (l.take k))) : Box5 (W.setCell ⟨B, 1, none⟩ (.int .i64 (cnt 1 (l.take k) + 1))) B t (cntI (l.take (k + 1))) := by
  refine (hb.setAt 1 _).trans ?_
  unfold cntI Ins.vals
  simp only [cnt_take _ l k h, hc]
  rfl
theorem cntI_set2 (l : List Ins) (k : Nat) (h : k < l.length) (hc : cls (cd l k).op = 2) {W : World} {B : Nat} {t : TypeId} (hb : Box5 W B t (cntI (l.take k))) : Box5 (W.setCell ⟨B, 2, none⟩ (.int .i64 (cnt 2 (l.take k) + 1))) B t (cntI (l.take (k + 1))) := by
  refine (hb.setAt 2 _).trans ?_
  unfold cntI Ins.vals
  simp only [cnt_take _ l k h, hc]
  rfl
theorem cntI_set3 (l : List Ins) (k : Nat) (h : k < l.length) (hc : cls (cd l k).op = 3) {W : World} {B : Nat} {t : TypeId} (hb : Box5 W B t (cntI (l.take k))) : Box5 (W.setCell ⟨B, 3, none⟩ (.int .i64 (cnt 3 (l.take k) + 1))) B t (cntI (l.take (k + 1))) := by
  refine (hb.setAt 3 _).trans ?_
  unfold cntI Ins.vals
  simp only [cnt_take _ l k h, hc]
  rfl
theorem cntI_set4 (l : List Ins) (k : Nat) (h : k < l.length) (hc : cls (cd l k).op = 4) {W : World} {B : Nat} {t : TypeId} (hb : Box5 W B t (cntI (l.take k))) : Box5 (W.setCell ⟨B, 4, none⟩ (.int .i64 (cnt 4 (l.take k) + 1))) B t (cntI (l.take (k + 1))) := by
  refine (hb.setAt 4 _).trans ?_
  unfold cntI Ins.vals
  simp only [cnt_take _ l k h, hc]
  rfl
theorem info_cnt : (Tryd.prog.info? 47).map (·.size) = some 5 := by kernel_rfl
theorem Box5.put {W : World} {B : Nat} {t : TypeId} {i : Ins} (h : Box5 W B t i) (x : Ins) : Box5 (((((W.setCell ⟨B, 0, none⟩ (.int .i64 x.op)).setCell ⟨B, 1, none⟩ (.int .i64 x.to)).setCell ⟨B, 2, none⟩ (.int .i64 x.a)).setCell ⟨B, 3, none⟩ (.int .i64 x.b)).setCell ⟨B, 4, none⟩ (.int .i64 x.c)) B t x := by
  have h0 : Box5 (W.setCell ⟨B, 0, none⟩ (.int .i64 x.op)) B t ⟨x.op, i.to, i.a, i.b, i.c⟩ := h.setAt 0 _
  have h1 : Box5 _ B t ⟨x.op, x.to, i.a, i.b, i.c⟩ := h0.setAt 1 (.int .i64 x.to)
  have h2 : Box5 _ B t ⟨x.op, x.to, x.a, i.b, i.c⟩ := h1.setAt 2 (.int .i64 x.a)
  have h3 : Box5 _ B t ⟨x.op, x.to, x.a, x.b, i.c⟩ := h2.setAt 3 (.int .i64 x.b)
  exact h3.setAt 4 (.int .i64 x.c)
theorem below_put5 {n : Nat} {w W : World} (h : Below n w W) {C : Nat} (hC : n ≤ C) (a b c d e : Value) : Below n w (((((W.setCell ⟨C, 0, none⟩ a).setCell ⟨C, 1, none⟩ b).setCell ⟨C, 2, none⟩ c).setCell ⟨C, 3, none⟩ d).setCell ⟨C, 4, none⟩ e) :=
  ((((h.setCell (p := ⟨C, 0, none⟩) hC _).setCell (p := ⟨C, 1, none⟩) hC _).setCell (p := ⟨C, 2, none⟩) hC _).setCell (p := ⟨C, 3, none⟩) hC _).setCell (p := ⟨C, 4, none⟩) hC _
theorem ret_cnte {fn : Func} {R : Ending → World → Prop} {a : Act} {w : World} {p u : Tmp} (h : fn.results = #[.cell p 47, .tmp u]) (g : Nat) (x : Ins)
    (hp : a.tmps.getD p undef = .pointer (some ⟨g, 0, none⟩)) (hg : Box5 w g 47 x) (hd : a.defers = []) (hR : R (.returned (.tuple #[.agg x.vals, a.tmps.getD u undef])) w) : bodyPost Tryd.prog fn R .ret a w := by
  refine bodyPost_ret ?_ hd hR
  have hp' : a.tmps[p]?.getD undef = .pointer (some ⟨g, 0, none⟩) := by simpa using hp
  simp [results, h, hp', asAddr, run_loadVar_row w g 47 47 x.vals (0, 0) _ hg Tryd.underlying47 rfl info_cnt]
set_option maxRecDepth 100000 in
set_option maxHeartbeats 8000000 in
theorem count_wrong (v : Value) (p : Pg) (w : World) (h : PgAt w v p) (hr : rightB p = false) :
    Calls Tryd.prog 20 #[v] w fun e w' => e = .returned (.tuple #[.agg #[.int .i64 0, .int .i64 0, .int .i64 0, .int .i64 0, .int .i64 0], .int .i64 80]) ∧ Below w.heap.size w w' := by
  have HP := hide h
  obtain ⟨ca, cc, oa, oc, rfl, hc, ho⟩ := h
  have KC := hide hc
  clear hc ho
  go_enter Tryd.func20, Tryd.ntmps20
  go_upto_region 1 with fail
  have b1 := below_alloc w (.cells #[.int .i64 p.ins, .int .i64 p.regs, .slice ca p.code.length cc, .slice oa p.outs.length oc] 36)
  have b2 := below_alloc (w.alloc (.cells #[.int .i64 p.ins, .int .i64 p.regs, .slice ca p.code.length cc, .slice oa p.outs.length oc] 36)) (.cells #[.int .i64 0, .int .i64 0, .int .i64 0, .int .i64 0, .int .i64 0] 47)
  have PX := hide ((Box4.new w 36 (.int .i64 p.ins) (.int .i64 p.regs) (.slice ca p.code.length cc) (.slice oa p.outs.length oc)).step b2)
  have RX := hide (Box5.new (w.alloc (.cells #[.int .i64 p.ins, .int .i64 p.regs, .slice ca p.code.length cc, .slice oa p.outs.length oc] 36)) 47 ⟨0, 0, 0, 0, 0⟩)
  rw [World.size_alloc] at RX
  replace HP := hide ((HP.out.below b1).below b2)
  have HB := hide (b1.trans (b2.mono b1.size))
  clear b1 b2
  unfold Ins.vals at RX
  dsimp only at RX
  generalize (w.alloc (.cells #[.int .i64 p.ins, .int .i64 p.regs, .slice ca p.code.length cc, .slice oa p.outs.length oc] 36)).alloc (.cells #[.int .i64 0, .int .i64 0, .int .i64 0, .int .i64 0, .int .i64 0] 47) = w1 at *
  obtain ⟨B, hB⟩ : ∃ B, B = w.heap.size := ⟨_, rfl⟩
  obtain ⟨R, hR⟩ : ∃ R, R = w.heap.size + 1 := ⟨_, rfl⟩
  have HZ := hide hB
  have HR := hide hR
  rw [← hR] at RX ⊢
  rw [← hB] at PX ⊢
  clear hB hR
  have c0 := PX.out.cell0
  have c1 := PX.out.cell1
  have c2 := PX.out.cell2
  have c3 := PX.out.cell3
  go_wp2_with fail
  refine (check_any _ p _ HP.out).mono ?_
  rintro e w2 ⟨rfl, hb⟩
  replace RX := hide (RX.out.step hb)
  replace HB := hide (HB.out.trans (hb.mono HB.out.size))
  clear hb c0 c1 c2 c3
  rw [ck_wrong hr]
  generalize chkK p = kk
  have r0 := RX.out.free 0
  have r1 := RX.out.free 1
  have r2 := RX.out.free 2
  have r3 := RX.out.free 3
  have r4 := RX.out.free 4
  have q0 := RX.out.cells.cell0
  have q1 := RX.out.cells.cell1
  have q2 := RX.out.cells.cell2
  have q3 := RX.out.cells.cell3
  have q4 := RX.out.cells.cell4
  simp only [Nat.zero_add] at q1 q2 q3 q4
  go_wp2
  refine ret_cnte rfl R ⟨0, 0, 0, 0, 0⟩ rfl (RX.out.put ⟨0, 0, 0, 0, 0⟩) rfl ⟨rfl, ?_⟩
  exact below_put5 HB.out (by have := HR.out; omega) _ _ _ _ _
set_option maxRecDepth 100000 in
set_option maxHeartbeats 8000000 in
theorem count_right (v : Value) (p : Pg) (w : World) (h : PgAt w v p) (hr : rightB p = true) :
    Calls Tryd.prog 20 #[v] w fun e w' => e = .returned (.tuple #[.agg (cntI p.code).vals, .int .i64 0]) ∧ Below w.heap.size w w' := by
  obtain ⟨p1, p2, p3, p4, p5, p6, p7, p8⟩ := right_parts hr
  have P8 := hide p8
  clear p7 p8
  have HP := hide h
  obtain ⟨ca, cc, oa, oc, rfl, hc, ho⟩ := h
  have KC := hide hc
  clear hc ho
  go_enter Tryd.func20, Tryd.ntmps20
  go_upto_region 1 with fail
  have b1 := below_alloc w (.cells #[.int .i64 p.ins, .int .i64 p.regs, .slice ca p.code.length cc, .slice oa p.outs.length oc] 36)
  have b2 := below_alloc (w.alloc (.cells #[.int .i64 p.ins, .int .i64 p.regs, .slice ca p.code.length cc, .slice oa p.outs.length oc] 36)) (.cells #[.int .i64 0, .int .i64 0, .int .i64 0, .int .i64 0, .int .i64 0] 47)
  have PX := hide ((Box4.new w 36 (.int .i64 p.ins) (.int .i64 p.regs) (.slice ca p.code.length cc) (.slice oa p.outs.length oc)).step b2)
  have RX := hide (Box5.new (w.alloc (.cells #[.int .i64 p.ins, .int .i64 p.regs, .slice ca p.code.length cc, .slice oa p.outs.length oc] 36)) 47 ⟨0, 0, 0, 0, 0⟩)
  rw [World.size_alloc] at RX
  replace HP := hide ((HP.out.below b1).below b2)
  have HB := hide (b1.trans (b2.mono b1.size))
  clear b1 b2
  unfold Ins.vals at RX
  dsimp only at RX
  generalize (w.alloc (.cells #[.int .i64 p.ins, .int .i64 p.regs, .slice ca p.code.length cc, .slice oa p.outs.length oc] 36)).alloc (.cells #[.int .i64 0, .int .i64 0, .int .i64 0, .int .i64 0, .int .i64 0] 47) = w1 at *
  obtain ⟨B, hB⟩ : ∃ B, B = w.heap.size := ⟨_, rfl⟩
  obtain ⟨R, hR⟩ : ∃ R, R = w.heap.size + 1 := ⟨_, rfl⟩
  have HZ := hide hB
  have HR := hide hR
  rw [← hR] at RX ⊢
  rw [← hB] at PX ⊢
  clear hB hR
  have c0 := PX.out.cell0
  have c1 := PX.out.cell1
  have c2 := PX.out.cell2
  have c3 := PX.out.cell3
  go_wp2_with fail
  refine (check_any _ p _ HP.out).mono ?_
  rintro e w2 ⟨rfl, hb⟩
  replace RX := hide (RX.out.step hb)
  replace PX := hide (PX.out.step hb)
  replace HB := hide (HB.out.trans (hb.mono HB.out.size))
  clear hb c0 c1 c2 c3 HP
  rw [ck_right hr]
  clear hr
  have c0 := PX.out.cell0
  have c1 := PX.out.cell1
  have c2 := PX.out.cell2
  have c3 := PX.out.cell3
  have lb : B < w2.heap.size := Box4.lt PX.out
  go_upto_region 6 with fail
  clear c0 c1 c2 c3 lb
  have hb := below_alloc w2 (.cells #[.int .i64 0, .int .i64 0, .int .i64 0, .int .i64 0, .int .i64 0] 47)
  have CX := hide (Box5.new w2 47 ⟨0, 0, 0, 0, 0⟩)
  unfold Ins.vals at CX
  dsimp only at CX
  have CR : Hid (R < w2.heap.size) := hide RX.out.lt
  have CB : Hid (B < w2.heap.size) := hide PX.out.lt
  replace RX := hide (RX.out.step hb)
  replace PX := hide (PX.out.step hb)
  replace HB := hide (HB.out.trans (hb.mono HB.out.size))
  clear hb
  generalize w2.alloc (.cells #[.int .i64 0, .int .i64 0, .int .i64 0, .int .i64 0, .int .i64 0] 47) = w3 at *
  have CW : Hid (w.heap.size ≤ w2.heap.size) := hide (by have := CR.out; have := HR.out; omega)
  generalize w2.heap.size = C at *
  have CZ : Hid (Box5 w3 C 47 (cntI (p.code.take 0))) := hide CX.out
  clear CX
  go_loopw [21, 8] (fun kv _ wr => ∃ k : Nat, k ≤ p.code.length ∧ kv = .int .i64 k ∧ Below w.heap.size w wr ∧ Box5 wr R 47 ⟨0, 0, 0, 0, 0⟩ ∧ Box5 wr C 47 (cntI (p.code.take k))) (fun kv _ _ => p.code.length - (intOf kv).toNat)
  case atStart => exact ⟨0, Nat.zero_le _, rfl, HB.out, RX.out, CZ.out⟩
  case round =>
    obtain ⟨k, hk, rfl, hB, hR, hC⟩ := hrel
    clear HB PX RX CZ
    have HB := hide hB
    have RX := hide hR
    have CX := hide hC
    clear hB hR hC
    by_cases hlt : k < p.code.length
    · have k1 := (KC.out.below HB.out).at hlt
      obtain ⟨b, off, rfl, k1⟩ := k1
      obtain ⟨x, hx⟩ : ∃ x, x = cd p.code k := ⟨_, rfl⟩
      rw [← hx] at k1
      have HX := hide hx
      obtain ⟨_, _, _, _, _, _, o1, o2, _, _⟩ := may_parts (P8.out k hlt)
      rw [← hx] at o1 o2
      clear hx
      have k10 := k1.cell0
      have k11 := k1.cell1
      have k12 := k1.cell2
      have k13 := k1.cell3
      have k14 := k1.cell4
      clear k1
      go_upto_region 8 with fail
      clear k10 k11 k12 k13 k14
      have hb := below_alloc wr (.cells x.vals 24)
      have IX := hide (Box5.new wr 24 x)
      have CI : Hid (C < wr.heap.size) := hide CX.out.lt
      replace RX := hide (RX.out.step hb)
      replace CX := hide (CX.out.step hb)
      replace HB := hide (HB.out.trans (hb.mono HB.out.size))
      clear hb
      unfold Ins.vals at IX
      unfold Ins.vals at RX CX HB
      generalize wr.alloc (.cells #[.int .i64 x.op, .int .i64 x.to, .int .i64 x.a, .int .i64 x.b, .int .i64 x.c] 24) = w4 at *
      generalize wr.heap.size = gi at *
      have i0 := (show Box5 w4 gi 24 x from IX.out).cells.cell0
      have q0 := CX.out.cells.cell0
      have q1 := CX.out.cells.cell1
      have q2 := CX.out.cells.cell2
      have q3 := CX.out.cells.cell3
      have q4 := CX.out.cells.cell4
      simp only [Nat.zero_add] at q1 q2 q3 q4
      unfold cntI at q0 q1 q2 q3 q4
      dsimp only at q0 q1 q2 q3 q4
      have f0 := CX.out.free 0
      have f1 := CX.out.free 1
      have f2 := CX.out.free 2
      have f3 := CX.out.free 3
      have f4 := CX.out.free 4
      have n0 := cnt_nonneg 0 (p.code.take k)
      have n1 := cnt_nonneg 1 (p.code.take k)
      have n2 := cnt_nonneg 2 (p.code.take k)
      have n3 := cnt_nonneg 3 (p.code.take k)
      have n4 := cnt_nonneg 4 (p.code.take k)
      have m0 := cnt_le 0 (p.code.take k)
      have m1 := cnt_le 1 (p.code.take k)
      have m2 := cnt_le 2 (p.code.take k)
      have m3 := cnt_le 3 (p.code.take k)
      have m4 := cnt_le 4 (p.code.take k)
      have tl : (p.code.take k).length ≤ 16384 := by rw [List.length_take]; omega
      have hop : x.op = 1 ∨ x.op = 2 ∨ x.op = 3 ∨ x.op = 4 ∨ x.op = 5 ∨ x.op = 6 ∨ x.op = 7 ∨ x.op = 8 := by omega
      have hcl : ∀ n, x.op = n → cls (cd p.code k).op = cls n := fun n e => by rw [← HX.out, e]
      have HCL := hide hcl
      clear hcl o1 o2
      rcases hop with e | e | e | e | e | e | e | e
      · rw [e] at i0
        have K := hide (cntI_set0 p.code k hlt (HCL.out 1 e) CX.out)
        have KR := hide (RX.out.set_ne (C := C) (o := 0) (by have := CR.out; omega) (.int .i64 (cnt 0 (p.code.take k) + 1)))
        have KB := hide (HB.out.setCell (p := ⟨C, 0, none⟩) CW.out (.int .i64 (cnt 0 (p.code.take k) + 1)))
        clear e HCL CX RX HB IX
        generalize cnt 0 (p.code.take k) = z0 at *
        generalize cnt 1 (p.code.take k) = z1 at *
        generalize cnt 2 (p.code.take k) = z2 at *
        generalize cnt 3 (p.code.take k) = z3 at *
        generalize cnt 4 (p.code.take k) = z4 at *
        go_wp2
        go_roundw
        case rel => exact ⟨k + 1, by omega, by go_num, KB.out, KR.out, K.out⟩
        case measure => simp [intOf]; omega
      · rw [e] at i0
        have K := hide (cntI_set1 p.code k hlt (HCL.out 2 e) CX.out)
        have KR := hide (RX.out.set_ne (C := C) (o := 1) (by have := CR.out; omega) (.int .i64 (cnt 1 (p.code.take k) + 1)))
        have KB := hide (HB.out.setCell (p := ⟨C, 1, none⟩) CW.out (.int .i64 (cnt 1 (p.code.take k) + 1)))
        clear e HCL CX RX HB IX
        generalize cnt 0 (p.code.take k) = z0 at *
        generalize cnt 1 (p.code.take k) = z1 at *
        generalize cnt 2 (p.code.take k) = z2 at *
        generalize cnt 3 (p.code.take k) = z3 at *
        generalize cnt 4 (p.code.take k) = z4 at *
        go_wp2
        go_roundw
        case rel => exact ⟨k + 1, by omega, by go_num, KB.out, KR.out, K.out⟩
        case measure => simp [intOf]; omega
      · rw [e] at i0
        have K := hide (cntI_set1 p.code k hlt (HCL.out 3 e) CX.out)
        have KR := hide (RX.out.set_ne (C := C) (o := 1) (by have := CR.out; omega) (.int .i64 (cnt 1 (p.code.take k) + 1)))
        have KB := hide (HB.out.setCell (p := ⟨C, 1, none⟩) CW.out (.int .i64 (cnt 1 (p.code.take k) + 1)))
        clear e HCL CX RX HB IX
        generalize cnt 0 (p.code.take k) = z0 at *
        generalize cnt 1 (p.code.take k) = z1 at *
        generalize cnt 2 (p.code.take k) = z2 at *
        generalize cnt 3 (p.code.take k) = z3 at *
        generalize cnt 4 (p.code.take k) = z4 at *
        go_wp2
        go_roundw
        case rel => exact ⟨k + 1, by omega, by go_num, KB.out, KR.out, K.out⟩
        case measure => simp [intOf]; omega
      · rw [e] at i0
        have K := hide (cntI_set1 p.code k hlt (HCL.out 4 e) CX.out)
        have KR := hide (RX.out.set_ne (C := C) (o := 1) (by have := CR.out; omega) (.int .i64 (cnt 1 (p.code.take k) + 1)))
        have KB := hide (HB.out.setCell (p := ⟨C, 1, none⟩) CW.out (.int .i64 (cnt 1 (p.code.take k) + 1)))
        clear e HCL CX RX HB IX
        generalize cnt 0 (p.code.take k) = z0 at *
        generalize cnt 1 (p.code.take k) = z1 at *
        generalize cnt 2 (p.code.take k) = z2 at *
        generalize cnt 3 (p.code.take k) = z3 at *
        generalize cnt 4 (p.code.take k) = z4 at *
        go_wp2
        go_roundw
        case rel => exact ⟨k + 1, by omega, by go_num, KB.out, KR.out, K.out⟩
        case measure => simp [intOf]; omega
      · rw [e] at i0
        have K := hide (cntI_set2 p.code k hlt (HCL.out 5 e) CX.out)
        have KR := hide (RX.out.set_ne (C := C) (o := 2) (by have := CR.out; omega) (.int .i64 (cnt 2 (p.code.take k) + 1)))
        have KB := hide (HB.out.setCell (p := ⟨C, 2, none⟩) CW.out (.int .i64 (cnt 2 (p.code.take k) + 1)))
        clear e HCL CX RX HB IX
        generalize cnt 0 (p.code.take k) = z0 at *
        generalize cnt 1 (p.code.take k) = z1 at *
        generalize cnt 2 (p.code.take k) = z2 at *
        generalize cnt 3 (p.code.take k) = z3 at *
        generalize cnt 4 (p.code.take k) = z4 at *
        go_wp2
        go_roundw
        case rel => exact ⟨k + 1, by omega, by go_num, KB.out, KR.out, K.out⟩
        case measure => simp [intOf]; omega
      · rw [e] at i0
        have K := hide (cntI_set3 p.code k hlt (HCL.out 6 e) CX.out)
        have KR := hide (RX.out.set_ne (C := C) (o := 3) (by have := CR.out; omega) (.int .i64 (cnt 3 (p.code.take k) + 1)))
        have KB := hide (HB.out.setCell (p := ⟨C, 3, none⟩) CW.out (.int .i64 (cnt 3 (p.code.take k) + 1)))
        clear e HCL CX RX HB IX
        generalize cnt 0 (p.code.take k) = z0 at *
        generalize cnt 1 (p.code.take k) = z1 at *
        generalize cnt 2 (p.code.take k) = z2 at *
        generalize cnt 3 (p.code.take k) = z3 at *
        generalize cnt 4 (p.code.take k) = z4 at *
        go_wp2
        go_roundw
        case rel => exact ⟨k + 1, by omega, by go_num, KB.out, KR.out, K.out⟩
        case measure => simp [intOf]; omega
      · rw [e] at i0
        have K := hide (cntI_set4 p.code k hlt (HCL.out 7 e) CX.out)
        have KR := hide (RX.out.set_ne (C := C) (o := 4) (by have := CR.out; omega) (.int .i64 (cnt 4 (p.code.take k) + 1)))
        have KB := hide (HB.out.setCell (p := ⟨C, 4, none⟩) CW.out (.int .i64 (cnt 4 (p.code.take k) + 1)))
        clear e HCL CX RX HB IX
        generalize cnt 0 (p.code.take k) = z0 at *
        generalize cnt 1 (p.code.take k) = z1 at *
        generalize cnt 2 (p.code.take k) = z2 at *
        generalize cnt 3 (p.code.take k) = z3 at *
        generalize cnt 4 (p.code.take k) = z4 at *
        go_wp2
        go_roundw
        case rel => exact ⟨k + 1, by omega, by go_num, KB.out, KR.out, K.out⟩
        case measure => simp [intOf]; omega
      · rw [e] at i0
        have K := hide (cntI_set4 p.code k hlt (HCL.out 8 e) CX.out)
        have KR := hide (RX.out.set_ne (C := C) (o := 4) (by have := CR.out; omega) (.int .i64 (cnt 4 (p.code.take k) + 1)))
        have KB := hide (HB.out.setCell (p := ⟨C, 4, none⟩) CW.out (.int .i64 (cnt 4 (p.code.take k) + 1)))
        clear e HCL CX RX HB IX
        generalize cnt 0 (p.code.take k) = z0 at *
        generalize cnt 1 (p.code.take k) = z1 at *
        generalize cnt 2 (p.code.take k) = z2 at *
        generalize cnt 3 (p.code.take k) = z3 at *
        generalize cnt 4 (p.code.take k) = z4 at *
        go_wp2
        go_roundw
        case rel => exact ⟨k + 1, by omega, by go_num, KB.out, KR.out, K.out⟩
        case measure => simp [intOf]; omega
    · have e : k = p.code.length := by omega
      subst e
      rw [List.take_length] at CX
      obtain ⟨z, hz⟩ : ∃ z, z = cntI p.code := ⟨_, rfl⟩
      rw [← hz] at CX
      have HZ5 := hide hz
      clear hz
      have q0 := CX.out.cells.cell0
      have q1 := CX.out.cells.cell1
      have q2 := CX.out.cells.cell2
      have q3 := CX.out.cells.cell3
      have q4 := CX.out.cells.cell4
      simp only [Nat.zero_add] at q1 q2 q3 q4
      have s0 := RX.out.cells.cell0
      have s1 := RX.out.cells.cell1
      have s2 := RX.out.cells.cell2
      have s3 := RX.out.cells.cell3
      have s4 := RX.out.cells.cell4
      simp only [Nat.zero_add] at s1 s2 s3 s4
      have f0 := RX.out.free 0
      have f1 := RX.out.free 1
      have f2 := RX.out.free 2
      have f3 := RX.out.free 3
      have f4 := RX.out.free 4
      go_wp2
      refine ret_cnte rfl R z rfl (RX.out.put z) rfl ⟨by rw [← HZ5.out]; rfl, ?_⟩
      exact below_put5 HB.out (by have := HR.out; omega) _ _ _ _ _
end Go.Proofs.YtokgdegfcncahaaDoor
