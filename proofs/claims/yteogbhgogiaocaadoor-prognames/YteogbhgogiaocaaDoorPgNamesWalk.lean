/- swagelaw08.ProgNames answers true, and turns nothing that was there. -/
import Derived.Test.YteogbhgogiaocaaDoorPgLive
import Derived.Test.YteogbhgogiaocaaDoorPgJoin1
import Derived.Laws.BytesArg
import Derived.OwnWalk
namespace Go.Proofs.YteogbhgogiaocaaDoor
open Go.RowKit

theorem right_ofN {p : Pg} (h1 : 1 ≤ p.ins) (h2 : p.ins ≤ p.regs) (h3 : p.regs ≤ 128) (h4 : p.code.length ≤ 16384) (h5 : 1 ≤ p.outs.length) (h6 : p.outs.length ≤ 128) (h7 : ∀ r ∈ p.outs, 0 ≤ r ∧ r < p.regs) (h8 : ∀ i ∈ p.code, mayB i p.regs = true) : rightB p = true := by
  unfold rightB headB numB badAt
  simp only [Bool.and_eq_true, decide_eq_true_eq]
  refine ⟨⟨⟨⟨⟨⟨⟨h1, h2⟩, h3⟩, h4⟩, h5⟩, h6⟩, ?_⟩, ?_⟩
  · rw [List.all_eq_true]
    intro r hr
    have := h7 r hr
    unfold regB
    simp [this]
  · rw [List.findIdx_eq_length]
    intro i hi
    rw [h8 i hi]; rfl
theorem k_rightN {p : Pg} (hr : rightB p = true) : chkK p = 0 := by
  unfold rightB at hr
  simp only [Bool.and_eq_true, decide_eq_true_eq] at hr
  unfold chkK
  rw [if_pos hr.1, if_neg (by omega)]
theorem ck_rightN {p : Pg} (hr : rightB p = true) : ckV p = .returned (.tuple #[.int .i64 0, .int .i64 0]) := by
  unfold ckV; rw [hr, k_rightN hr]; rfl
theorem ck_longN {p : Pg} (h : 16384 < p.code.length) : ckV p = .returned (.tuple #[.int .i64 (-1), .int .i64 80]) := by
  have hh : headB p = false := by
    unfold headB numB
    have : decide (p.code.length ≤ 16384) = false := by simpa using h
    simp [this]
  have hr : rightB p = false := by unfold rightB; rw [hh]; rfl
  have hk : chkK p = -1 := by unfold chkK; rw [hh]; rfl
  unfold ckV; rw [hr, hk]; rfl
/-- the outs, the instructions -/
def oL (k : Nat) : List Int := (List.range k).map (fun j : Nat => (j : Int))
def iN (j : Nat) : Ins := ⟨5, (j : Int) % 128, 127, 0, -512⟩
def cL (k : Nat) : List Ins := (List.range k).map iN
theorem oL_succ (k : Nat) : oL (k + 1) = oL k ++ [(k : Int)] := by simp [oL, List.range_succ]
theorem cL_succ (k : Nat) : cL (k + 1) = cL k ++ [iN k] := by simp [cL, List.range_succ]
theorem oL_len (k : Nat) : (oL k).length = k := by simp [oL]
theorem cL_len (k : Nat) : (cL k).length = k := by simp [cL]
theorem iN_may (j : Nat) : mayB (iN j) 128 = true := by
  have h : j % 128 < 128 := Nat.mod_lt _ (by decide)
  have : ∀ t : Nat, t < 128 → mayB ⟨5, ((t : Nat) : Int), 127, 0, -512⟩ 128 = true := by decide +kernel
  have e : iN j = ⟨5, ((j % 128 : Nat) : Int), 127, 0, -512⟩ := by unfold iN; congr 1
  rw [e]
  exact this _ h
theorem names_right {k n : Nat} (hk : k ≤ 16384) (hn : n = 128) : rightB ⟨128, 128, cL k, oL n⟩ = true := by
  refine right_ofN (show (1 : Int) ≤ 128 from by decide) (show (128 : Int) ≤ 128 from by decide) (show (128 : Int) ≤ 128 from by decide) (by rw [cL_len]; exact hk) (by rw [oL_len]; omega) (by rw [oL_len]; omega) ?_ ?_
  · intro r hr
    obtain ⟨j, hj, rfl⟩ := List.mem_map.1 hr
    have := List.mem_range.1 hj
    show 0 ≤ (j : Int) ∧ (j : Int) < 128
    omega
  · intro i hi
    obtain ⟨j, _, rfl⟩ := List.mem_map.1 hi
    exact iN_may j
structure PN (w0 : World) (B : Nat) (vc vo : Value) (x : List Ins) (y : List Int) (w : World) : Prop where
  bel : Below w0.heap.size w0 w
  bx : Box4 w B 46 (.int .i64 128) (.int .i64 128) vc vo
  oc : OwnC w w0.heap.size vc x
  oo : OwnO w w0.heap.size vo y
  ne : w0.heap.size ≤ B
section
variable {w0 w w' : World} {B : Nat} {vc vo : Value} {x : List Ins} {y : List Int}
theorem PN.step (h : PN w0 B vc vo x y w) (hb : Below w.heap.size w w') : PN w0 B vc vo x y w' :=
  ⟨h.bel.trans (hb.mono h.bel.size), h.bx.step hb, own_below h.oc hb, own_below h.oo hb, h.ne⟩
theorem PN.app {v' : Value} {x' : List Ins} (h : PN w0 B vc vo x y w) (hg : w.grownBy w' vc.ownBlock) (ho : OwnC w' w0.heap.size v' x') : PN w0 B v' vo x' y (w'.setCell ⟨B, 2, none⟩ v') := by
  have n4 := box_row_ne h.bx h.oc (by decide)
  have kx' := h.bx.grow hg n4
  have oo' := World.ownsRow.kept h.oo hg (rows_ne h.oo h.oc (by decide))
  exact ⟨(h.bel.grown hg h.bel.size (fun k hk => (h.oc.lt k hk).1)).setCell (p := ⟨B, 2, none⟩) h.ne _, kx'.set2 _, own_set_ne ho (box_row_ne kx' ho (by decide)) _, own_set_ne oo' (box_row_ne kx' oo' (by decide)) _, h.ne⟩
theorem PN.appO {v' : Value} {y' : List Int} (h : PN w0 B vc vo x y w) (hg : w.grownBy w' vo.ownBlock) (ho : OwnO w' w0.heap.size v' y') : PN w0 B vc v' x y' (w'.setCell ⟨B, 3, none⟩ v') := by
  have n4 := box_row_ne h.bx h.oo (by decide)
  have kx' := h.bx.grow hg n4
  have oc' := World.ownsRow.kept h.oc hg (rows_ne h.oc h.oo (by decide))
  exact ⟨(h.bel.grown hg h.bel.size (fun k hk => (h.oo.lt k hk).1)).setCell (p := ⟨B, 3, none⟩) h.ne _, kx'.set3 _, own_set_ne oc' (box_row_ne kx' oc' (by decide)) _, own_set_ne ho (box_row_ne kx' ho (by decide)) _, h.ne⟩
end
theorem info_u8N : (Tryd.prog.info? 5).map (fun i => (i.zero, i.size, i.bytes)) = some (some (.int .u8 0), 1, 1) := by kernel_rfl
theorem made_bytes {w : World} {base g n c : Nat} (h : w.ownsRow base 5 1 (.slice (some ⟨g, 0, none⟩) n c) n (madeCells #[.int .u8 0] n).toList) : ∀ i, i < n → w.cell? ⟨g, 0 + i, none⟩ = some (.int .u8 ((List.replicate n (0 : Int)).getD i 0)) := by
  intro i hi
  rw [Nat.zero_add]
  have a0 := h.cells (g := g) rfl i (.int .u8 ((List.replicate n (0 : Int)).getD i 0)) (by rw [toList_madeCells_one]; simp [hi])
  have hadd : ∀ j, (⟨g, 0, none⟩ : Addr).add j = ⟨g, 0 + j, none⟩ := fun j => by unfold Addr.add; split <;> simp_all
  rw [hadd, Nat.zero_add] at a0
  exact a0
theorem info_spot : (Tryd.prog.info? 33).map (·.size) = some 2 := by kernel_rfl
theorem ret_pgs {fn : Func} {R : Ending → World → Prop} {a : Act} {w : World} {p u : Tmp} (h : fn.results = #[.cell p 46, .cell u 33]) (g g2 : Nat) (x y z v s t : Value)
    (hp : a.tmps.getD p undef = .pointer (some ⟨g, 0, none⟩)) (hg : Box4 w g 46 x y z v) (hu : a.tmps.getD u undef = .pointer (some ⟨g2, 0, none⟩)) (hg2 : Box2 w g2 33 s t) (hd : a.defers = []) (hR : R (.returned (.tuple #[.agg #[x, y, z, v], .agg #[s, t]])) w) : bodyPost Tryd.prog fn R .ret a w := by
  refine bodyPost_ret ?_ hd hR
  have hp' : a.tmps[p]?.getD undef = .pointer (some ⟨g, 0, none⟩) := by simpa using hp
  have hu' : a.tmps[u]?.getD undef = .pointer (some ⟨g2, 0, none⟩) := by simpa using hu
  simp [results, h, hp', hu', asAddr, run_loadVar_row w g 46 46 #[x, y, z, v] (0, 0) _ hg Tryd.underlying46 rfl info_prog, run_loadVar_row w g2 33 33 #[s, t] (0, 0) _ hg2 Tryd.underlying33 rfl info_spot]
theorem str_len (l : List Int) : (strOfNums l).size = l.length := by simp [strOfNums, ByteArray.size]
theorem conv_made {w : World} {base g n c : Nat} (h : w.ownsRow base 5 1 (.slice (some ⟨g, 0, none⟩) n c) n (madeCells #[.int .u8 0] n).toList) : ∃ s : ByteArray, s.size = n ∧ (convert 30 9 (.slice (some ⟨g, 0, none⟩) n c)).run Tryd.prog w = .ok (.string s) w :=
  ⟨strOfNums (List.replicate n 0), by rw [str_len, List.length_replicate], run_convert_bytes_arg (P := Tryd.prog) w 30 5 Tryd.underlying30 Tryd.underlying5 g 0 n c (List.replicate n 0) (List.length_replicate ..) (made_bytes h) 9 Tryd.underlying9⟩

set_option maxRecDepth 100000 in
set_option maxHeartbeats 2000000 in
theorem read_longN (s : ByteArray) (w : World) (hs : s.size = 65537) :
    Calls Tryd.prog 19 #[.string s] w fun e w' => e = .returned (.tuple #[.agg #[.int .i64 0, .int .i64 0, .slice none 0 0, .slice none 0 0], .agg #[.int .i64 3, .int .i64 65536]]) ∧ Below w.heap.size w w' := by
  have hl : (65536 : Int) < (s.size : Int) := by omega
  have HS := hide hs
  clear hs
  go_enter Tryd.func19, Tryd.ntmps19
  have hb := below_alloc w (.cells #[.int .i64 0, .int .i64 0, .slice none 0 0, .slice none 0 0] 46)
  have hb2 := below_alloc (w.alloc (.cells #[.int .i64 0, .int .i64 0, .slice none 0 0, .slice none 0 0] 46)) (.cells #[.int .i64 3, .int .i64 65536] 33)
  have X := hide ((Box4.new w 46 (.int .i64 0) (.int .i64 0) (.slice none 0 0) (.slice none 0 0)).step hb2)
  have Y := hide (Box2.new (w.alloc (.cells #[.int .i64 0, .int .i64 0, .slice none 0 0, .slice none 0 0] 46)) 33 (.int .i64 3) (.int .i64 65536))
  rw [World.size_alloc] at Y
  have HB := hide (hb.trans (hb2.mono hb.size))
  clear hb hb2
  go_wp2
  exact ret_pgs rfl w.heap.size (w.heap.size + 1) _ _ _ _ _ _ rfl X.out rfl Y.out rfl ⟨rfl, HB.out⟩
set_option maxRecDepth 100000 in
set_option maxHeartbeats 2000000 in
theorem empty_none (w : World) : Calls Tryd.prog 20 #[.agg #[.int .i64 0, .int .i64 0, .slice none 0 0, .slice none 0 0]] w fun e w' => e = .returned (.bool true) ∧ Below w.heap.size w w' := by
  have hb := below_alloc w (.cells #[.int .i64 0, .int .i64 0, .slice none 0 0, .slice none 0 0] 46)
  have X := hide (Box4.new w 46 (.int .i64 0) (.int .i64 0) (.slice none 0 0) (.slice none 0 0))
  have HB := hide hb
  clear hb
  have c0 := X.out.cell0
  have c1 := X.out.cell1
  have c2 := X.out.cell2
  have c3 := X.out.cell3
  go_enter Tryd.func20, Tryd.ntmps20
  go_wp2
  go_ret
  exact ⟨rfl, HB.out⟩
set_option maxRecDepth 100000 in
set_option maxHeartbeats 16000000 in
theorem pnames_walk (w : World) : Calls Tryd.prog 4 #[] w fun e w' => e = .returned (.bool true) ∧ Below w.heap.size w w' := by
  obtain ⟨i0, hi, hz0, hz1, hz2⟩ := info_parts info_u8N
  go_enter Tryd.func4, Tryd.ntmps4
  go_wp2_with fail
  refine (live_any _).mono ?_
  rintro e w1 ⟨rfl, hb⟩
  have HB := hide hb
  clear hb
  go_upto_region 5 with fail
  have hb := below_alloc w1 (.cells #[.int .i64 128, .int .i64 128, .slice none 0 0, .slice none 0 0] 46)
  have NP : Hid (PN w w1.heap.size (.slice none 0 0) (.slice none 0 0) [] [] (w1.alloc (.cells #[.int .i64 128, .int .i64 128, .slice none 0 0, .slice none 0 0] 46))) := hide ⟨HB.out.trans (hb.mono HB.out.size), Box4.new _ _ _ _ _ _, World.ownsRow_nil _ _ _ _, World.ownsRow_nil _ _ _ _, HB.out.size⟩
  clear hb HB
  generalize w1.alloc (.cells #[.int .i64 128, .int .i64 128, .slice none 0 0, .slice none 0 0] 46) = w2 at *
  generalize w1.heap.size = B at *
  go_loopw [2] (fun kv wr => ∃ (k : Nat) (vo : Value), k ≤ 128 ∧ kv = .int .i64 k ∧ PN w B (.slice none 0 0) vo [] (oL k) wr) (fun kv _ => 128 - (intOf kv).toNat)
  case atStart => exact ⟨0, _, Nat.zero_le _, rfl, NP.out⟩
  case round =>
    clear NP
    obtain ⟨k, vo, hk, rfl, hN⟩ := hrel
    have NP := hide hN
    obtain ⟨va, vcap, rfl⟩ := own_slice hN.oo
    rw [oL_len] at NP
    clear hN
    by_cases hlt : k < 128
    · have y3 := NP.out.bx.cell3
      have NA := hide (NP.out.step (below_alloc wr (.cells #[.int .i64 (k : Int)] 3)))
      go_wp2_with (at_builtin; refine app_outs rfl _ _ rfl w.heap.size _ (oL k) rfl NA.out.oo _ [(k : Int)] rfl (int1 wr (k : Int) rfl) (by rw [oL_len]; simp only [List.length_singleton]; omega) NA.out.bel.size ?_)
      intro v' w3 hown hgrow
      rw [← oL_succ] at hown
      have bx' := NA.out.bx.grow hgrow (box_row_ne NA.out.bx NA.out.oo (by decide))
      have z3 := bx'.cell3
      have f3 := bx'.free 3
      have NN := hide (NA.out.appO hgrow hown)
      obtain ⟨va', vcap', rfl⟩ := own_slice hown
      clear y3 hgrow hown bx' NA NP
      go_wp2
      go_roundw
      case rel => exact ⟨k + 1, _, by omega, by go_num, NN.out⟩
      case measure => simp [intOf]; omega
    · obtain ⟨n, hn⟩ : ∃ n, k = n := ⟨_, rfl⟩
      subst hn
      have N8 : Hid (k = 128) := hide (by omega)
      go_upto_region 9 with fail
      clear hlt hk
      generalize wr = w4 at *
      obtain ⟨n, hn⟩ : ∃ n, n = k := ⟨_, rfl⟩
      rw [← hn] at NP N8 ⊢
      clear hn
      go_loopw [3] (fun kv wr => ∃ (k : Nat) (vc : Value), k ≤ 16384 ∧ kv = .int .i64 k ∧ PN w B vc (.slice va n vcap) (cL k) (oL n) wr) (fun kv _ => 16384 - (intOf kv).toNat)
      case atStart => exact ⟨0, _, Nat.zero_le _, rfl, NP.out⟩
      case round =>
        clear NP
        obtain ⟨k, vc, hk, rfl, hN⟩ := hrel
        have NP := hide hN
        obtain ⟨vb, vcb, rfl⟩ := own_slice hN.oc
        rw [cL_len] at NP
        clear hN
        by_cases hlt : k < 16384
        · have y2 := NP.out.bx.cell2
          have NA := hide (NP.out.step (below_alloc wr (.cells #[.int .i64 5, .int .i64 ((k : Int) % 128), .int .i64 127, .int .i64 0, .int .i64 (-512)] 48)))
          have CC : Hid (CodeAt (wr.alloc (.cells #[.int .i64 5, .int .i64 ((k : Int) % 128), .int .i64 127, .int .i64 0, .int .i64 (-512)] 48)) (.slice (some ⟨wr.heap.size, 0, none⟩) 1 1) [iN k]) := hide (code1 wr (iN k) rfl)
          go_wp2_with (at_builtin; refine app_code rfl _ _ rfl w.heap.size _ (cL k) rfl NA.out.oc _ [iN k] rfl CC.out (by rw [cL_len]; simp only [List.length_singleton]; omega) NA.out.bel.size ?_)
          intro v' w3 hown hgrow
          rw [← cL_succ] at hown
          have bx' := NA.out.bx.grow hgrow (box_row_ne NA.out.bx NA.out.oc (by decide))
          have z2 := bx'.cell2
          have f2 := bx'.free 2
          have NN := hide (NA.out.app hgrow hown)
          obtain ⟨vb', vcb', rfl⟩ := own_slice hown
          clear y2 hgrow hown bx' NA NP
          go_wp2
          go_roundw
          case rel => exact ⟨k + 1, _, by omega, by go_num, NN.out⟩
          case measure => simp [intOf]; omega
        · have K8 : Hid (k = 16384) := hide (by omega)
          have HP : Hid (PgAt wr (.agg #[.int .i64 128, .int .i64 128, .slice vb k vcb, .slice va n vcap]) ⟨128, 128, cL k, oL n⟩) := hide ⟨vb, vcb, va, vcap, by dsimp only; rw [cL_len, oL_len], by dsimp only; rw [cL_len]; exact OwnC.at NP.out.oc, by dsimp only; rw [oL_len]; exact OwnO.at NP.out.oo⟩
          have c0 := NP.out.bx.cell0
          have c1 := NP.out.bx.cell1
          have c2 := NP.out.bx.cell2
          have c3 := NP.out.bx.cell3
          go_wp2_with fail
          clear c0 c1 c2 c3
          refine (check_any _ _ _ HP.out).mono ?_
          rintro e w5 ⟨rfl, hb⟩
          rw [ck_rightN (names_right hk N8.out)]
          replace NP := hide (NP.out.step hb)
          clear hb HP
          have y2 := NP.out.bx.cell2
          have NA := hide (NP.out.step (below_alloc w5 (.cells #[.int .i64 7, .int .i64 0, .int .i64 0, .int .i64 0, .int .i64 64] 48)))
          have CC : Hid (CodeAt (w5.alloc (.cells #[.int .i64 7, .int .i64 0, .int .i64 0, .int .i64 0, .int .i64 64] 48)) (.slice (some ⟨w5.heap.size, 0, none⟩) 1 1) [⟨7, 0, 0, 0, 64⟩]) := hide (code1 w5 (⟨7, 0, 0, 0, 64⟩) rfl)
          go_wp2_with (at_builtin; refine app_code rfl _ _ rfl w.heap.size _ (cL k) rfl NA.out.oc _ [⟨7, 0, 0, 0, 64⟩] rfl CC.out (by rw [cL_len]; simp only [List.length_singleton]; omega) NA.out.bel.size ?_)
          intro v' w3 hown hgrow
          obtain ⟨l2, hl2⟩ : ∃ l2, l2 = cL k ++ [⟨7, 0, 0, 0, 64⟩] := ⟨_, rfl⟩
          rw [← hl2] at hown
          have LL : Hid (16384 < l2.length) := hide (by rw [hl2, List.length_append, cL_len]; simp only [List.length_singleton]; have := K8.out; omega)
          clear hl2
          have bx' := NA.out.bx.grow hgrow (box_row_ne NA.out.bx NA.out.oc (by decide))
          have z2 := bx'.cell2
          have f2 := bx'.free 2
          have NN := hide (NA.out.app hgrow hown)
          obtain ⟨vd, vcd, rfl⟩ := own_slice hown
          clear y2 hgrow hown bx' NA NP
          go_upto_region 14 with fail
          clear z2 f2
          generalize w3.setCell ⟨B, 2, none⟩ (.slice vd l2.length vcd) = w6 at *
          have HP : Hid (PgAt w6 (.agg #[.int .i64 128, .int .i64 128, .slice vd l2.length vcd, .slice va n vcap]) ⟨128, 128, l2, oL n⟩) := hide ⟨vd, vcd, va, vcap, by dsimp only; rw [oL_len], OwnC.at NN.out.oc, by dsimp only; rw [oL_len]; exact OwnO.at NN.out.oo⟩
          have c0 := NN.out.bx.cell0
          have c1 := NN.out.bx.cell1
          have c2 := NN.out.bx.cell2
          have c3 := NN.out.bx.cell3
          go_wp2_with fail
          clear c0 c1 c2 c3
          refine (check_any _ _ _ HP.out).mono ?_
          rintro e w7 ⟨rfl, hb⟩
          rw [ck_longN (p := ⟨128, 128, l2, oL n⟩) LL.out]
          have HB := hide (NN.out.bel.trans (hb.mono NN.out.bel.size))
          clear hb HP NN LL hlt hk K8 N8
          go_wp2_with (at_make; refine wpList_make_full _ rfl _ _ 30 rfl w7.heap.size 5 i0 (.int .u8 0) 1 Tryd.underlying30 hi hz0 hz1 _ _ _ _ 65537 rfl rfl rfl rfl (by rw [hz2]; omega) (by unfold maxLen; omega) (Nat.le_refl _) ?_)
          intro w8 hown hgrow
          have hb : Below w7.heap.size w7 w8 := (Below.refl _ _).grown hgrow (Nat.le_refl _) (fun k hk => by simp at hk)
          replace HB := hide (HB.out.trans (hb.mono HB.out.size))
          obtain ⟨s, SZ, hconv⟩ := conv_made hown
          clear hown hgrow hb
          go_wp2_with fail
          clear hconv
          refine (read_longN s _ SZ).mono ?_
          rintro e w9 ⟨rfl, hb⟩
          replace HB := hide (HB.out.trans (hb.mono HB.out.size))
          clear hb SZ
          go_upto_region 16 with fail
          have hb := below_alloc w9 (.cells #[.int .i64 0, .int .i64 0, .slice none 0 0, .slice none 0 0] 46)
          have hb2 := below_alloc (w9.alloc (.cells #[.int .i64 0, .int .i64 0, .slice none 0 0, .slice none 0 0] 46)) (.cells #[.int .i64 3, .int .i64 65536] 33)
          have X := hide ((Box4.new w9 46 (.int .i64 0) (.int .i64 0) (.slice none 0 0) (.slice none 0 0)).step hb2)
          have Y := hide (Box2.new (w9.alloc (.cells #[.int .i64 0, .int .i64 0, .slice none 0 0, .slice none 0 0] 46)) 33 (.int .i64 3) (.int .i64 65536))
          rw [World.size_alloc] at Y
          replace HB := hide ((HB.out.trans (hb.mono HB.out.size)).trans (hb2.mono (Nat.le_trans HB.out.size hb.size)))
          clear hb hb2
          generalize (w9.alloc (.cells #[.int .i64 0, .int .i64 0, .slice none 0 0, .slice none 0 0] 46)).alloc (.cells #[.int .i64 3, .int .i64 65536] 33) = w10 at *
          obtain ⟨g2, hg⟩ : ∃ q, q = w9.heap.size + 1 := ⟨_, rfl⟩
          rw [← hg] at Y ⊢
          clear hg
          generalize w9.heap.size = g1 at *
          have c0 := X.out.cell0
          have c1 := X.out.cell1
          have c2 := X.out.cell2
          have c3 := X.out.cell3
          go_wp2_with fail
          clear c0 c1 c2 c3
          refine (empty_none _).mono ?_
          rintro e w11 ⟨rfl, hb⟩
          replace HB := hide (HB.out.trans (hb.mono HB.out.size))
          replace Y := hide (Y.out.step hb)
          clear hb X
          have d0 := Y.out.cell0
          have d1 := Y.out.cell1
          go_wp2_with fail
          refine (live_any _).mono ?_
          rintro e w12 ⟨rfl, hb⟩
          replace HB := hide (HB.out.trans (hb.mono HB.out.size))
          clear hb d0 d1 Y
          go_wp2
          go_ret
          exact ⟨rfl, HB.out⟩
end Go.Proofs.YteogbhgogiaocaaDoor
