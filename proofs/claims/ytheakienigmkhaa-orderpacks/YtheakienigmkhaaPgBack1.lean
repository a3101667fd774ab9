/- prog.Back and its iterator: the instructions from behind, left early or not. -/
import Derived.Test.YtheakienigmkhaaPgJoin1
import Derived.Test.YtheakienigmkhaaPgChecksWalk
import Derived.RangeFuncBox
import Derived.RangeFuncLeaves
import Derived.RangeFuncNested
import Derived.Shelf.Abstract
import Derived.OwnWalkIn
import Derived.TacticsInMore
import Derived.LoopNIn
import Derived.LoopIn
import Derived.Maps.AppendAt
namespace Go.Proofs.Ytheakienigmkhaa
open Go.RowKit Go.Shelf
attribute [local go_sem] Oper.semAt_some

def Keeps (lo hi : Nat) (W W' : World) : Prop := ∀ k, lo ≤ k → k < hi → W'.heap[k]? = W.heap[k]?
theorem Keeps.refl (lo hi : Nat) (W : World) : Keeps lo hi W W := fun _ _ _ => rfl
theorem Keeps.trans {lo hi : Nat} {A B C : World} (h : Keeps lo hi A B) (k : Keeps lo hi B C) : Keeps lo hi A C := fun i h1 h2 => (k i h1 h2).trans (h i h1 h2)
theorem Keeps.cell {lo hi : Nat} {W W' : World} (h : Keeps lo hi W W') {b o : Nat} (h1 : lo ≤ b) (h2 : b < hi) : W'.cell? ⟨b, o, none⟩ = W.cell? ⟨b, o, none⟩ := World.cell?_of_block (h b h1 h2)
theorem Keeps.ins {lo hi : Nat} {W W' : World} (h : Keeps lo hi W W') {b o : Nat} {x : Ins} (h1 : lo ≤ b) (h2 : b < hi) (hc : InsC W b o x) : InsC W' b o x :=
  ⟨(h.cell h1 h2).trans hc.cell0, (h.cell h1 h2).trans hc.cell1, (h.cell h1 h2).trans hc.cell2, (h.cell h1 h2).trans hc.cell3, (h.cell h1 h2).trans hc.cell4⟩

abbrev Nx := Nat × Ins
/-- the first m that are told -/
def tb (code : List Ins) (m : Nat) : List Nx := (List.range m).map (fun j => (code.length - 1 - j, cd code (code.length - 1 - j)))
theorem tb_length (code : List Ins) (m : Nat) : (tb code m).length = m := by simp [tb]
theorem tb_succ (code : List Ins) (m : Nat) : tb code (m + 1) = tb code m ++ [(code.length - 1 - m, cd code (code.length - 1 - m))] := by unfold tb; rw [List.range_succ, List.map_append]; rfl
theorem tb_pre (code : List Ins) (m n : Nat) (h : m ≤ n) : tb code m <+: tb code n := by
  unfold tb
  obtain ⟨k, rfl⟩ : ∃ k, n = m + k := ⟨n - m, by omega⟩
  rw [List.range_add, List.map_append]
  exact List.prefix_append _ _
def encN (x : Nx) : Array Value := #[.int .i64 (x.1 : Nat), .agg #[.int .i64 x.2.op, .int .i64 x.2.to, .int .i64 x.2.a, .int .i64 x.2.b, .int .i64 x.2.c]]

set_option maxRecDepth 100000 in
set_option maxHeartbeats 8000000 in
theorem back1_in (n : Nat) (hn : 1 ≤ n) (l bx lo hi b cap : Nat) (a : Option Addr) (code : List Ins) (hm : code.length ≤ 100000)
    (hx1 : lo ≤ bx) (hx2 : bx < hi) (J Jx : List Nx → World → Prop)
    (hY : ∀ pre x W, J pre W → pre.length < (tb code code.length).length → (x.1 < code.length ∧ x.2 = cd code x.1) → YieldAt Fence.wide (n - 1) Try.prog l (encN x) W fun e W' =>
      (e = .returned (.bool true) ∧ J (pre ++ [x]) W' ∧ Keeps lo hi W W') ∨ (e = .returned (.bool false) ∧ Jx (pre ++ [x]) W'))
    (W : World) (hBx : W.cell? ⟨bx, 0, none⟩ = some (.slice a code.length cap)) (hA : code ≠ [] → a = some ⟨b, 0, none⟩ ∧ lo ≤ b ∧ b < hi ∧ ∀ i, i < code.length → InsC W b (i * 5) (cd code i)) (h0 : J [] W) :
    CallsIn Fence.wide n Try.prog 62 #[.func (.yield l) #[] #[], .pointer (some ⟨bx, 0, none⟩)] W fun e W' => (∃ v, e = .returned v) ∧
      ((∃ ys, ys = tb code code.length ∧ J ys W') ∨ (∃ pre, pre <+: tb code code.length ∧ Jx pre W')) := by
  have HX := hide hY
  have HA := hide hA
  clear hY hA
  refine callsIn_of_wp Try.func62 rfl trivial ?_ rfl
  simp only [Try.ntmps62, List.size_toArray, List.length_cons, List.length_nil, Nat.reduceAdd, Nat.reduceSub, Array.replicate_succ, Array.replicate_zero, List.push_toArray, List.append_toArray, List.nil_append, List.cons_append]
  gi_wp2
  gi_loopw [3] (fun iv wr => ∃ m : Nat, m ≤ code.length ∧ iv = .int .i64 ((code.length : Int) - 1 - m) ∧ J (tb code m) wr ∧ Keeps lo hi W wr) (fun iv _ => (intOf iv + 1).toNat)
  case atStart => exact ⟨0, Nat.zero_le _, by go_num, h0, Keeps.refl _ _ _⟩
  case round =>
    obtain ⟨m, hm', rfl, hJ, hK⟩ := hrel
    have HJ := hide hJ
    have HK := hide hK
    clear hJ hK
    by_cases hlt : m < code.length
    · obtain ⟨k, hk⟩ : ∃ k : Nat, k = code.length - 1 - m := ⟨_, rfl⟩
      have hk2 : (code.length : Int) - 1 - m = k := by omega
      rw [hk2]
      have hkl : k < code.length := by omega
      obtain ⟨rfl, g1, g2, hc⟩ := HA.out (by intro e; rw [e] at hlt; simp at hlt)
      have hcI := HK.out.ins g1 g2 (hc k hkl)
      obtain ⟨x, hx⟩ : ∃ x, x = cd code k := ⟨_, rfl⟩
      rw [← hx] at hcI
      have k0 := hcI.cell0
      have k1 := hcI.cell1
      have k2 := hcI.cell2
      have k3 := hcI.cell3
      have k4 := hcI.cell4
      have hb' := (HK.out.cell (o := 0) hx1 hx2).trans hBx
      obtain ⟨fn, tmps, assign, body, hy, hRd⟩ := HX.out (tb code m) (k, x) _ HJ.out (by rw [tb_length, tb_length]; exact hlt) ⟨hkl, hx⟩
      have TS : Hid (tb code m ++ [(k, x)] = tb code (m + 1)) := hide (by rw [tb_succ, ← hk, ← hx])
      have HRD := hide hRd
      have HKN := hide hk
      unfold encN at hy
      dsimp only at hy
      clear hRd hcI hc hx hk hk2
      gi_wp2
      refine HRD.out.mono ?_
      rintro e W3 (⟨rfl, hJ3, hk3⟩ | ⟨rfl, hJx3⟩)
      · rw [TS.out] at hJ3
        have HJ3 := hide hJ3
        have HK3 := hide (HK.out.trans hk3)
        clear hJ3 hk3 hy k0 k1 k2 k3 k4 hb'
        gi_wp2
        go_roundw
        case rel => exact ⟨m + 1, by omega, by have := HKN.out; go_num, HJ3.out, HK3.out⟩
        case measure => simp [intOf]
      · rw [TS.out] at hJx3
        clear hy
        gi_wp2
        refine bodyPost_ret (results_none rfl _ _ _) rfl ?_
        exact ⟨⟨_, rfl⟩, .inr ⟨_, tb_pre code (m + 1) code.length (by omega), hJx3⟩⟩
    · have e : m = code.length := by omega
      subst e
      rw [show (code.length : Int) - 1 - code.length = -1 from by omega]
      gi_wp2
      go_end0
      exact ⟨⟨_, rfl⟩, .inl ⟨_, rfl, HJ.out⟩⟩

theorem back_stops (n : Nat) (hn : 1 ≤ n) (bx lo hi base : Nat) (v : Value) (code : List Ins) (hm : code.length ≤ 100000) (w : World) (hO : OwnC w base v code) (hlo : lo ≤ base) (hhi : hi = w.heap.size)
    (hx1 : lo ≤ bx) (hx2 : bx < hi) (hc : w.cell? ⟨bx, 0, none⟩ = some v) :
    SeqStopsK Fence.wide n Try.prog 62 #[.pointer (some ⟨bx, 0, none⟩)] encN (Keeps lo hi) (fun ys => ys = tb code code.length) (fun pre => pre <+: tb code code.length) (tb code code.length).length w := by
  intro l J Jx W hW _ _ hY h0
  have hN := OwnC.at hO
  subst hhi
  rcases hO.2 with ⟨rfl, h0'⟩ | ⟨g, cap, cur, rfl, hb, hgg, _, _, _, _⟩
  · have e : code = [] := List.eq_nil_of_length_eq_zero h0'
    subst e
    exact back1_in n hn l bx lo _ 0 0 none [] (by simp) hx1 hx2 J Jx (fun pre x W h1 h2 _ => hY pre x W h1 h2) W ((hW.cell (p := ⟨bx, 0, none⟩) hx2).trans hc) (fun h => absurd rfl h) h0
  · have hlt : g < w.heap.size := (Array.getElem?_eq_some_iff.1 hgg).1
    refine back1_in n hn l bx lo _ g cap _ code hm hx1 hx2 J Jx (fun pre x W h1 h2 _ => hY pre x W h1 h2) W ((hW.cell (p := ⟨bx, 0, none⟩) hx2).trans hc) (fun _ => ⟨rfl, Nat.le_trans hlo hb, hlt, fun i hi => ?_⟩) h0
    obtain ⟨b', off', he, hI⟩ := hN.at hi
    simp only [Option.some.injEq, Addr.mk.injEq, and_true] at he
    obtain ⟨rfl, rfl⟩ := he
    rw [Nat.zero_add] at hI
    exact hI.step hW

/-- what Back answers -/
def BackR (w w' : World) (e : Ending) (code : List Ins) : Prop := ∃ bx v, e = .returned (.func (.func 62) #[] #[.pointer (some ⟨bx, 0, none⟩)]) ∧ w.heap.size ≤ bx ∧ bx < w'.heap.size ∧ w'.cell? ⟨bx, 0, none⟩ = some v ∧ OwnC w' w.heap.size v code
set_option maxRecDepth 100000 in
set_option maxHeartbeats 8000000 in
theorem back_any (v : Value) (p : Pg) (w : World) (h : PgAt w v p) (hl : p.code.length ≤ 400) (cs : List Ins) (hcs : cs = if rightB p then p.code else []) :
    Calls Try.prog 53 #[v] w fun e w' => BackR w w' e cs ∧ Below w.heap.size w w' := by
  have CS := hide hcs
  clear hcs
  have HP := hide h
  have HL := hide hl
  clear hl
  obtain ⟨ca, cc, oa, oc, rfl, hc, _⟩ := h
  have KC := hide hc
  clear hc
  go_enter Try.func53, Try.ntmps53
  go_upto_region 2 with fail
  have b1 := below_alloc w (.cells #[.int .i64 p.ins, .int .i64 p.regs, .slice ca p.code.length cc, .slice oa p.outs.length oc] 25)
  have b2 := below_alloc (w.alloc (.cells #[.int .i64 p.ins, .int .i64 p.regs, .slice ca p.code.length cc, .slice oa p.outs.length oc] 25)) (.cells #[.slice none 0 0] 22)
  have PX := hide ((Box4.new w 25 (.int .i64 p.ins) (.int .i64 p.regs) (.slice ca p.code.length cc) (.slice oa p.outs.length oc)).step b2)
  have RX := hide (Boxed.new (w.alloc (.cells #[.int .i64 p.ins, .int .i64 p.regs, .slice ca p.code.length cc, .slice oa p.outs.length oc] 25)) 22 (.slice none 0 0))
  rw [World.size_alloc] at RX
  replace HP := hide ((HP.out.below b1).below b2)
  replace KC := hide ((KC.out.below b1).below b2)
  have HB := hide (b1.trans (b2.mono b1.size))
  clear b1 b2
  generalize (w.alloc (.cells #[.int .i64 p.ins, .int .i64 p.regs, .slice ca p.code.length cc, .slice oa p.outs.length oc] 25)).alloc (.cells #[.slice none 0 0] 22) = w1 at *
  obtain ⟨B, hB⟩ : ∃ B, B = w.heap.size := ⟨_, rfl⟩
  have HZ := hide hB
  rw [← hB] at PX RX ⊢
  clear hB
  have c0 := PX.out.cell0
  have c1 := PX.out.cell1
  have c2 := PX.out.cell2
  have c3 := PX.out.cell3
  go_wp2_with fail
  refine (check_any _ p _ HP.out).mono ?_
  rintro e w2 ⟨rfl, hb⟩
  replace PX := hide (PX.out.step hb)
  replace RX := hide ((hb.block _ RX.out.lt).trans RX.out)
  replace KC := hide (KC.out.below hb)
  replace HB := hide (HB.out.trans (hb.mono HB.out.size))
  clear hb c0 c1 c2 c3
  cases hr : rightB p with
  | false =>
    rw [ck_wrong hr]
    generalize chkK p = kk
    go_wp2
    go_ret
    rw [show cs = [] from by rw [CS.out, hr]; rfl]
    exact ⟨⟨B + 1, .slice none 0 0, rfl, by have := HZ.out; omega, (show Boxed w2 (B + 1) 22 (.slice none 0 0) from RX.out).lt, (show Boxed w2 (B + 1) 22 (.slice none 0 0) from RX.out).cell, World.ownsRow_nil _ _ _ _⟩, HB.out⟩
  | true =>
    rw [ck_right hr]
    have c0 := PX.out.cell0
    have c1 := PX.out.cell1
    have c2 := PX.out.cell2
    have c3 := PX.out.cell3
    go_wp2_with fail
    refine (clonec_any _ p.code _ KC.out (by have := HL.out; omega)).mono ?_
    rintro e w3 ⟨⟨vc, rfl, hown⟩, hb⟩
    obtain ⟨va, vcap, rfl⟩ := own_slice hown
    have WS := hide HB.out.size
    have L2 := hide (show Boxed w2 (B + 1) 22 (.slice none 0 0) from RX.out).lt
    have RY : Hid (Boxed w3 (B + 1) 22 (.slice none 0 0)) := hide ((hb.block _ L2.out).trans RX.out)
    replace HB := hide (HB.out.trans (hb.mono HB.out.size))
    have OC := hide hown
    clear hb hown c0 c1 c2 c3
    have hc := RY.out.cell
    have hf := RY.out.frozen
    go_wp2
    go_ret
    rw [show cs = p.code from by rw [CS.out, hr]; rfl]
    refine ⟨⟨B + 1, .slice va p.code.length vcap, rfl, by have := HZ.out; omega, (RY.out.set _).lt, (RY.out.set _).cell, ?_⟩, HB.out.setCell (p := ⟨B + 1, 0, none⟩) (by have := HZ.out; show w.heap.size ≤ B + 1; omega) _⟩
    exact own_base (ownsRow_setCell_below OC.out (a := ⟨B + 1, 0, none⟩) L2.out _) WS.out
end Go.Proofs.Ytheakienigmkhaa
