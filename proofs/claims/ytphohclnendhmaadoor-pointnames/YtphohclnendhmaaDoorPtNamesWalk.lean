/- swagelaw06.PointNames answers true, and turns nothing that was there. -/
import Derived.Test.YtphohclnendhmaaDoorPtAll2
import Derived.Test.YtphohclnendhmaaDoorRangeN
import Derived.Test.YtphohclnendhmaaDoorCalmV
import Derived.Test.YtphohclnendhmaaDoorPtDet
import Derived.Laws.AppendOwn
import Derived.Lib.Strings
namespace Go.Proofs.YtphohclnendhmaaDoor
open Go.RowKit Go.Shelf
attribute [local go_sem] Oper.semAt_some

theorem info_u8N : (Tryd.prog.info? 5).map (fun i => (i.zero, i.size, i.bytes)) = some (some (.int .u8 0), 1, 1) := by kernel_rfl
theorem made_bytes {w : World} {base g n c : Nat} (h : w.ownsRow base 5 1 (.slice (some ⟨g, 0, none⟩) n c) n (madeCells #[.int .u8 0] n).toList) : ∀ i, i < n → w.cell? ⟨g, 0 + i, none⟩ = some (.int .u8 ((List.replicate n (0 : Int)).getD i 0)) := by
  intro i hi
  rw [Nat.zero_add]
  have a0 := h.cells (g := g) rfl i (.int .u8 ((List.replicate n (0 : Int)).getD i 0)) (by rw [toList_madeCells_one]; simp [hi])
  have hadd : ∀ j, (⟨g, 0, none⟩ : Addr).add j = ⟨g, 0 + j, none⟩ := fun j => by unfold Addr.add; split <;> simp_all
  rw [hadd, Nat.zero_add] at a0
  exact a0
theorem str_len (l : List Int) : (strOfNums l).size = l.length := by simp [strOfNums, ByteArray.size]
theorem conv_made {w : World} {base g n c : Nat} (h : w.ownsRow base 5 1 (.slice (some ⟨g, 0, none⟩) n c) n (madeCells #[.int .u8 0] n).toList) : ∃ s : ByteArray, s.size = n ∧ (convert 37 9 (.slice (some ⟨g, 0, none⟩) n c)).run Tryd.prog w = .ok (.string s) w :=
  ⟨strOfNums (List.replicate n 0), by rw [str_len, List.length_replicate], run_convert_bytes_arg (P := Tryd.prog) w 37 5 Tryd.underlying37 Tryd.underlying5 g 0 n c (List.replicate n 0) (List.length_replicate ..) (made_bytes h) 9 Tryd.underlying9⟩

theorem res_tmp {fn : Func} {p : Tmp} (h : fn.results = #[.tmp p]) (tmps : Array Value) (w : World) (b : Bool) (hp : tmps.getD p undef = .bool b) : (results fn tmps).run Tryd.prog w = .ok (.bool b) w := by
  have hp' : tmps[p]?.getD undef = .bool b := by simpa using hp
  simp [results, h, hp']
theorem leaves_tmp {n : Nat} {fn : Func} {p : Tmp} (h : fn.results = #[.tmp p]) (tmps : Array Value) (w : World) (b : Bool) (hp : tmps.getD p undef = .bool b) :
    ∀ (ds : List Nat) (We : World), Marks ds w.heap.size We → Below w.heap.size w We → LeavesInM Fence.wide n Tryd.prog fn tmps (fun e w' => e = .returned (.bool b) ∧ Below w.heap.size w w') (mks ds) .returning We
  | [], We, _, hb => ⟨_, res_tmp h _ _ b hp, rfl, hb⟩
  | D :: ds, We, hm, hb => by
    have hD := hm.2 D (by simp)
    have hn' := List.nodup_cons.1 hm.1
    refine ⟨by simp, .inl ⟨_, _, rfl, run_takeDeferred hD.2, leaves_tmp h tmps w b hp ds _ ⟨hn'.2, fun E hE => ⟨(hm.2 E (by simp [hE])).1, ?_⟩⟩ (hb.trans (belowK_b (w := w) (Nat.le_refl _) We D _ (.deferred none) hD.1 hD.2 rfl rfl))⟩⟩
    exact (World.putObj_heap_other (by rintro rfl; exact hn'.1 hE)).trans (hm.2 E (by simp [hE])).2
theorem ret_ptspot {fn : Func} {R : Ending → World → Prop} {a : Act} {w : World} {p u : Tmp} (h : fn.results = #[.cell p 22, .cell u 30]) (g g2 : Nat) (v s t : Value)
    (hp : a.tmps.getD p undef = .pointer (some ⟨g, 0, none⟩)) (hg : Boxed w g 22 v) (hu : a.tmps.getD u undef = .pointer (some ⟨g2, 0, none⟩)) (hg2 : Box2 w g2 30 s t) (hd : a.defers = []) (hR : R (.returned (.tuple #[v, .agg #[s, t]])) w) : bodyPost Tryd.prog fn R .ret a w := by
  refine bodyPost_ret ?_ hd hR
  have hp' : a.tmps[p]?.getD undef = .pointer (some ⟨g, 0, none⟩) := by simpa using hp
  have hu' : a.tmps[u]?.getD undef = .pointer (some ⟨g2, 0, none⟩) := by simpa using hu
  have hc := hg.cell
  have hc0 := hg2.cell0
  have hc1 := hg2.cell1
  simp [results, h, hp', hu', asAddr]
  go_simp
set_option maxRecDepth 100000 in
set_option maxHeartbeats 2000000 in
theorem read_longP (s : ByteArray) (w : World) (hs : s.size = 65537) :
    Calls Tryd.prog 10 #[.string s] w fun e w' => e = .returned (.tuple #[.slice none 0 0, .agg #[.int .i64 3, .int .i64 65536]]) ∧ Below w.heap.size w w' := by
  have hl : (65536 : Int) < (s.size : Int) := by omega
  have HS := hide hs
  clear hs
  go_enter Tryd.func10, Tryd.ntmps10
  have hb := below_alloc w (.cells #[.slice none 0 0] 22)
  have hb2 := below_alloc (w.alloc (.cells #[.slice none 0 0] 22)) (.cells #[.int .i64 3, .int .i64 65536] 30)
  have X := hide (boxed_step (Boxed.new w 22 (.slice none 0 0)) hb2)
  have Y := hide (Box2.new (w.alloc (.cells #[.slice none 0 0] 22)) 30 (.int .i64 3) (.int .i64 65536))
  rw [World.size_alloc] at Y
  have HB := hide (hb.trans (hb2.mono hb.size))
  clear hb hb2
  go_wp2
  exact ret_ptspot rfl w.heap.size (w.heap.size + 1) _ _ _ rfl X.out rfl Y.out rfl ⟨rfl, HB.out⟩
set_option maxRecDepth 100000 in
set_option maxHeartbeats 1000000 in
theorem join0 (a : Option Addr) (c : Nat) (w : World) : Calls Tryd.prog 16 #[.slice a 0 c, .string ⟨#[32]⟩] w fun e w' => e = .returned (.string ⟨#[]⟩) ∧ Below w.heap.size w w' := by
  go_enter Tryd.func16, Tryd.ntmps16
  go_wp2
  go_ret
  exact ⟨rfl, Below.refl _ _⟩
theorem info_strP : (Tryd.prog.info? 9).map (fun i => (i.zero, i.size, i.bytes)) = some (some (.string ⟨#[]⟩), 1, 16) := by kernel_rfl
set_option maxRecDepth 100000 in
set_option maxHeartbeats 1000000 in
theorem ptext0 (w : World) : Calls Tryd.prog 7 #[.slice none 0 0] w fun e w' => e = .returned (.string ⟨#[]⟩) ∧ Below w.heap.size w w' := by
  obtain ⟨i0, hi, hz0, hz1, hz2⟩ := info_parts info_strP
  go_enter Tryd.func7, Tryd.ntmps7
  go_wp2_with (at_make; refine wpList_make_full _ rfl _ _ 44 rfl w.heap.size 9 i0 (.string ⟨#[]⟩) 1 Tryd.underlying44 hi hz0 hz1 _ _ _ _ 0 rfl rfl rfl rfl (by rw [hz2]; omega) (by unfold maxLen; omega) (Nat.le_refl _) ?_)
  intro w1 hown hgrow
  have hb : Below w.heap.size w w1 := (Below.refl _ _).grown hgrow (Nat.le_refl _) (fun k hk => by simp at hk)
  clear hown hgrow
  have HB := hide hb
  clear hb
  go_wp2
  go_loopw [4, 5, 11] (fun _ _ iv wr => iv = .int .i64 0 ∧ wr = w1) (fun _ _ _ _ => 0)
  case atStart => exact ⟨rfl, rfl⟩
  case round =>
    obtain ⟨rfl, rfl⟩ := hrel
    go_wp2_with fail
    refine (join0 _ _ _).mono ?_
    rintro e w2 ⟨rfl, hb⟩
    replace HB := hide (HB.out.trans (hb.mono HB.out.size))
    clear hb
    go_wp2
    go_ret
    exact ⟨rfl, HB.out⟩

def BxI (w : World) (I : Nat) (v : Value) : Prop := Boxed w I 3 v
theorem BxI.of {w : World} {I : Nat} {v : Value} (h : Boxed w I 3 v) : BxI w I v := h
theorem BxI.step {w w' : World} {I : Nat} {v : Value} (h : BxI w I v) (hb : Below w.heap.size w w') : BxI w' I v := boxed_step h hb
theorem BxI.cell0 {w : World} {I : Nat} {v : Value} (h : BxI w I v) : w.cell? ⟨I, 0, none⟩ = some v := Boxed.cell h
theorem BxI.drew {w : World} {I : Nat} {v : Value} (h : BxI w I v) : BxI w.drew I v := h
theorem Marks.drewP {ds : List Nat} {B : Nat} {w : World} (h : Marks ds B w) : Marks ds B w.drew := h
theorem len16 : (allP 16).length ≤ 10000 := of_decide_eq_true (by kernel_rfl)
def IC (F : World → Prop) (I : Nat) (pre : List (Int × Int)) (W : World) : Prop := F W ∧ Boxed W I 3 (.int .i64 (pre.length : Nat))
theorem IC.own {F : World → Prop} {C : Nat} (hF : OwnFrom C (fun (_ : Unit) W => F W)) (I : Nat) : OwnFrom C (IC F I) := fun s X Y row hs hg hr => ⟨hF () X Y row hs.1 hg hr, Go.Own.from (boxed_own _ _ (fun pre : List (Int × Int) => .int .i64 (pre.length : Nat))) C s X Y row hs.2 hg hr⟩
theorem kc_set {lo hi B I : Nat} (W : World) (v : Value) (h1 : I < lo) (h2 : I < B) : KA lo hi B W (W.setCell ⟨I, 0, none⟩ v) :=
  ⟨fun i q _ => Below.heap_setCell _ _ _ _ (by show i ≠ I; omega), by show _ ≤ (W.setCell _ _).heap.size; simp [World.setCell], fun i q _ => Below.heap_setCell _ _ _ _ (by show i ≠ I; omega)⟩
theorem range_cnt {ws : List (Int × Int)} {F : World → Prop} {I n : Nat} {g : Operand} {ps : Array Tmp} {assign body : Code} {b : Nat} {K : Act → World → Prop} {X : Exit → Act → World → Prop} {a : Act} {w : World} (h1 : 1 ≤ n) {gf : Nat} {lb : Array Value} (hg : a.eval g = .func (.func gf) #[] lb)
    (eg : ∀ args w, (callFunc gf args).run Tryd.prog w = .ok (.enter gf args) w) {Kq : Nat → World → World → Prop} {w0 : World} (hseq : Yields (n - 1) Tryd.prog gf lb ptE Kq (fun ys => ys = ws) (fun pre => pre <+: ws) ws.length w0)
    (hKt : ∀ {A B C : World}, Kq (w.heap.size + 2) A B → Kq (w.heap.size + 2) B C → Kq (w.heap.size + 2) A C) (hKb : ∀ (W : World) (o : Obj), w.heap.size + 1 < W.heap.size → Kq (w.heap.size + 2) W (W.putObj (w.heap.size + 1) o)) (hKr : ∀ W : World, Kq (w.heap.size + 2) W W) (hb0 : Below w0.heap.size w0 w) (hps : ∀ x, (ptE x).size = ps.size)
    (hF : OwnFrom w.heap.size (fun (_ : Unit) W => F W)) (h0 : F w) (hI0 : Boxed w I 3 (.int .i64 0))
    (hassign : ∀ (l : Nat) (x : Int × Int) (W : World) (K : Act → World → Prop), K { tmps := (ps.zip (ptE x)).foldl (fun t (p, v) => t.setIfInBounds p v) a.tmps, defers := [] } W →
      assign.wpIn (Fence.wide.inRound l) (n - 1 - 1) Tryd.prog (Exit.then K (fun _ _ _ => False)) { tmps := (ps.zip (ptE x)).foldl (fun t (p, v) => t.setIfInBounds p v) a.tmps, defers := [] } W)
    (hbody : ∀ (l : Nat) (pre : List (Int × Int)) (x : Int × Int) (W : World), IC F I pre W → pre.length < ws.length → body.wpIn (Fence.wide.inRound l) (n - 1 - 1) Tryd.prog
      (ownPostG w.heap.size (Kq (w.heap.size + 2)) (IC F I) (fun _ _ _ => False) (pre ++ [x]) W) { tmps := (ps.zip (ptE x)).foldl (fun t (p, v) => t.setIfInBounds p v) a.tmps, defers := [] } W)
    (hnext : ∀ (M : Nat) (W : World), w.heap.size ≤ M → F W → Boxed W I 3 (.int .i64 (ws.length : Nat)) → W.heap[M]? = some (.deferred (some [])) → K { a with defers := { target := .collected M, args := #[] } :: a.defers } W) :
    (Code.rangeFunc g ps assign body).wpIn Fence.wide n Tryd.prog (Exit.inBlock b (Exit.then K X)) a w := by
  refine range_yields h1 hg eg hseq (Kp := Kq (w.heap.size + 2)) rfl hKt hKb hb0 hps (IC F I) (fun _ _ _ => False) (IC.own hF I) (fun _ _ _ _ _ h _ _ => h.elim) ⟨h0, hI0⟩ (fun x a' _ => a' = { tmps := (ps.zip (ptE x)).foldl (fun t (p, v) => t.setIfInBounds p v) a.tmps, defers := [] }) (fun _ _ _ _ _ _ h _ _ => h)
    (fun l pre x W K hi hK => hassign l x W K (hK _ W (KeepsFrom.refl _ _) (hKr W) hi rfl)) (fun l pre x a' W hi e hlt => by subst e; exact hbody l pre x W hi hlt) ?_ ?_
  · rintro D xs W hD rfl ⟨hf, hi⟩ hK
    exact hnext D W hD hf hi hK
  · rintro D c pre W hD hp hx hK
    exact hx.elim

set_option maxRecDepth 100000 in
set_option maxHeartbeats 8000000 in
theorem pnames_walk (w : World) :
    Calls Tryd.prog 5 #[] w fun e w' => e = .returned (.bool true) ∧ Below w.heap.size w w' := by
  obtain ⟨i0, hi, hz0, hz1, hz2⟩ := info_parts info_u8N
  refine callsIn_marksN (n := 5) Tryd.func5 rfl ?_
  simp only [Tryd.ntmps5, List.size_toArray, List.length_nil, Nat.reduceSub, Array.replicate_succ, Array.replicate_zero, List.push_toArray, List.append_toArray, List.nil_append, List.cons_append]
  go_wp2_with fail
  refine (live_any _).mono ?_
  rintro e w1 ⟨rfl, hb⟩
  have HB := hide hb
  clear hb
  go_wp2_with (at_make; refine wpList_make_full _ rfl _ _ 37 rfl w1.heap.size 5 i0 (.int .u8 0) 1 Tryd.underlying37 hi hz0 hz1 _ _ _ _ 65537 rfl rfl rfl rfl (by rw [hz2]; omega) (by unfold maxLen; omega) (Nat.le_refl _) ?_)
  intro w2 hown hgrow
  have hb : Below w1.heap.size w1 w2 := (Below.refl _ _).grown hgrow (Nat.le_refl _) (fun k hk => by simp at hk)
  replace HB := hide (HB.out.trans (hb.mono HB.out.size))
  obtain ⟨s, SZ, hconv⟩ := conv_made hown
  clear hown hgrow hb
  go_wp2_with fail
  clear hconv
  refine (read_longP s _ SZ).mono ?_
  rintro e w3 ⟨rfl, hb⟩
  replace HB := hide (HB.out.trans (hb.mono HB.out.size))
  clear hb SZ
  go_upto_region 4 with fail
  have hb := below_alloc w3 (.cells #[.int .i64 3, .int .i64 65536] 30)
  have SB := hide (Box2.new w3 30 (.int .i64 3) (.int .i64 65536))
  replace HB := hide (HB.out.trans (hb.mono HB.out.size))
  clear hb
  generalize w3.alloc (.cells #[.int .i64 3, .int .i64 65536] 30) = w4 at *
  generalize w3.heap.size = g2 at *
  go_upto_region 5 with fail
  have hb := below_alloc w4 (.cells #[.int .i64 0] 3)
  have BI := hide (Boxed.new w4 3 (.int .i64 0))
  have H4 := hide hb
  clear hb
  generalize w4.alloc (.cells #[.int .i64 0] 3) = w5 at *
  obtain ⟨I, hI⟩ : ∃ I, I = w4.heap.size := ⟨_, rfl⟩
  have GI : Hid (w4.heap.size ≤ I) := hide (Nat.le_of_eq hI.symm)
  rw [← hI] at BI
  rw [← hI]
  clear hI
  have LI := hide BI.out.lt
  go_wp2_with fail
  refine (all_any 16 _).mono ?_
  rintro e w6 ⟨bx, rfl, hge, hbx, hb⟩
  have BX := hide hbx
  have GX : Hid (I < bx) := hide (Nat.lt_of_lt_of_le LI.out hge)
  replace BI := hide (boxed_step BI.out hb)
  replace H4 := hide (H4.out.trans (hb.mono H4.out.size))
  clear hbx hb hge
  have LX : Hid (bx + 1 ≤ w6.heap.size) := hide BX.out.lt
  have YS := hide (all_yields 4 (by omega) bx 16 w6 BX.out)
  have hq := eql_func
  go_upto_region 8 with fail
  clear hq
  have OWN : Hid (OwnFrom w6.heap.size (fun (_ : Unit) Z => Below w4.heap.size w4 Z)) := hide (below_own H4.out.size (Nat.le_refl _))
  go_wp2_with fail
  have NN0 : Hid ((allP 16).length ≤ 10000) := hide len16
  refine (wpIn_wide (n := 5)).1 ?_
  refine range_cnt (ws := allP 16) (F := fun Z => Below w4.heap.size w4 Z) (I := I) (by omega) (gf := 21) (lb := #[.pointer (some ⟨bx, 0, none⟩)]) rfl (enters_of Tryd.func21 (by kernel_rfl) rfl)
    YS.out KA.trans (fun W o hW => ⟨fun i _ h2 => World.putObj_heap_other (by have := LX.out; omega), by simp [World.putObj], fun i h1 _ => World.putObj_heap_other (by omega)⟩) (fun W => ⟨fun _ _ _ => rfl, Nat.le_refl _, fun _ _ _ => rfl⟩) (Below.refl _ _) (fun _ => rfl) OWN.out H4.out BI.out ?asg ?bdy ?nx
  case asg =>
    intro l x W K hK
    exact wpIn_skip hK
  case bdy =>
    rintro l pre x W ⟨f1, hi⟩ hlt
    obtain ⟨xa, xb⟩ := x
    simp only [ptE, List.zip_toArray, List.zip_cons_cons, List.zip_nil_right, List.foldl_toArray', List.size_toArray, List.length_cons, List.length_nil, List.foldl_cons, List.foldl_nil, List.setIfInBounds_toArray, List.set_cons_succ, List.set_cons_zero]
    have F1 := hide f1
    have HI := hide hi
    have cI := hi.cell
    have fI := hi.frozen
    obtain ⟨m, hm⟩ : ∃ m, m = pre.length := ⟨_, rfl⟩
    have HM := hide hm
    have mb : m ≤ 10000 := by have := NN0.out; omega
    rw [← hm] at cI
    clear hm f1 hi hlt
    gi_wp2
    exact ⟨(KeepsOthers.setCell _ _ _).from _, kc_set W _ GX.out (by have := LI.out; have := H4.out.size; have := GX.out; have := LX.out; omega), ⟨F1.out.setCell (p := ⟨I, 0, none⟩) GI.out _, by rw [List.length_append, List.length_singleton, ← HM.out]; exact HI.out.set _⟩⟩
  case nx =>
    rintro M W hM f1 hi hK
    obtain ⟨nn, hnn⟩ : ∃ nn, nn = (allP 16).length := ⟨_, rfl⟩
    have NN := hide hnn
    rw [← hnn] at hi
    clear hnn
    have BN := hide (BxI.of hi)
    have S2 := hide (SB.out.step f1)
    have HW := hide (HB.out.trans (f1.mono HB.out.size))
    have MK : Hid (Marks [M] w.heap.size W) := hide ⟨by simp, fun D hD => by simp at hD; subst hD; exact ⟨Nat.le_trans (Nat.le_trans HB.out.size H4.out.size) hM, hK⟩⟩
    clear f1 hi hK NN0
    go_wp2_with fail
    refine wp_calm (fun w' => Below w.heap.size w w' ∧ Box2 w' g2 30 (.int .i64 3) (.int .i64 65536) ∧ BxI w' I (.int .i64 (nn : Nat)) ∧ Marks [M] w.heap.size w') (fun _ => true) 26 #[false, false, false, false, false, false, false, false, false, false, false, false, false, false, false, false, false, false, false, false, false, false, false, false, false, false] (by kernel_rfl) rfl rfl ?_
    have HF := hide (And.intro (HW.out.drew) (And.intro (S2.out.drew) (And.intro (BN.out.drew) (MK.out.drewP))))
    generalize W.drew = Wd at *
    refine Calm.take (i := 0) (v := ?_) (a' := ?_) (l' := #[true, false, false, false, false, false, false, false, false, false, false, false, false, false, false, false, false, false, false, false, false, false, false, false, false, false]) (d := some 20) rfl (by kernel_rfl) (by kernel_rfl) (by kernel_rfl) (by kernel_rfl) (fun _ _ _ h => h) HF.out rfl ?_ rfl rfl ?_ ?_
    rotate_left
    · intro w' hF; clear hF; go_simp; try rfl
    rotate_left
    · simp only [Act.put]; exact rfl
    refine Calm.take (i := 1) (v := ?_) (a' := ?_) (l' := #[true, true, false, false, false, false, false, false, false, false, false, false, false, false, false, false, false, false, false, false, false, false, false, false, false, false]) (d := some 21) rfl (by kernel_rfl) (by kernel_rfl) (by kernel_rfl) (by kernel_rfl) (fun _ _ _ h => h) HF.out (by kernel_rfl) ?_ rfl rfl ?_ ?_
    rotate_left
    · intro w' hF; clear hF; go_simp; try rfl
    rotate_left
    · simp only [Act.put]; exact rfl
    refine Calm.take (i := 2) (v := ?_) (a' := ?_) (l' := #[true, true, true, false, false, false, false, false, false, false, false, false, false, false, false, false, false, false, false, false, false, false, false, false, false, false]) (d := some 22) rfl (by kernel_rfl) (by kernel_rfl) (by kernel_rfl) (by kernel_rfl) (fun _ _ _ h => h) HF.out (by kernel_rfl) ?_ rfl rfl ?_ ?_
    rotate_left
    · intro w' hF; clear hF; go_simp; try rfl
    rotate_left
    · simp only [Act.put]; exact rfl
    refine Calm.take (i := 3) (v := ?_) (a' := ?_) (l' := #[true, true, true, true, false, false, false, false, false, false, false, false, false, false, false, false, false, false, false, false, false, false, false, false, false, false]) (d := some 23) rfl (by kernel_rfl) (by kernel_rfl) (by kernel_rfl) (by kernel_rfl) (fun _ _ _ h => h) HF.out (by kernel_rfl) ?_ rfl rfl ?_ ?_
    rotate_left
    · intro w' hF; clear hF; go_simp; try rfl
    rotate_left
    · simp only [Act.put]; exact rfl
    refine Calm.take (i := 4) (v := ?_) (a' := ?_) (l' := #[true, true, true, true, true, false, false, false, false, false, false, false, false, false, false, false, false, false, false, false, false, false, false, false, false, false]) (d := some 24) rfl (by kernel_rfl) (by kernel_rfl) (by kernel_rfl) (by kernel_rfl) (fun _ _ _ h => h) HF.out rfl ?_ rfl rfl ?_ ?_
    rotate_left
    · intro w' hF; clear hF; go_simp; try rfl
    rotate_left
    · simp only [Act.put]; exact rfl
    refine Calm.take (i := 5) (v := ?_) (a' := ?_) (l' := #[true, true, true, true, true, true, false, false, false, false, false, false, false, false, false, false, false, false, false, false, false, false, false, false, false, false]) (d := some 25) rfl (by kernel_rfl) (by kernel_rfl) (by kernel_rfl) (by kernel_rfl) (fun _ _ _ h => h) HF.out rfl ?_ rfl rfl ?_ ?_
    rotate_left
    · intro w' hF; clear hF; go_simp; try rfl
    rotate_left
    · simp only [Act.put]; exact rfl
    refine Calm.take (i := 6) (v := ?_) (a' := ?_) (l' := #[true, true, true, true, true, true, true, false, false, false, false, false, false, false, false, false, false, false, false, false, false, false, false, false, false, false]) (d := some 26) rfl (by kernel_rfl) (by kernel_rfl) (by kernel_rfl) (by kernel_rfl) (fun _ _ _ h => h) HF.out (by kernel_rfl) ?_ rfl rfl ?_ ?_
    rotate_left
    · intro w' hF; clear hF; go_simp; try rfl
    rotate_left
    · simp only [Act.put]; exact rfl
    refine Calm.take (i := 7) (v := ?_) (a' := ?_) (l' := #[true, true, true, true, true, true, true, true, false, false, false, false, false, false, false, false, false, false, false, false, false, false, false, false, false, false]) (d := some 27) rfl (by kernel_rfl) (by kernel_rfl) (by kernel_rfl) (by kernel_rfl) (fun _ _ _ h => h) HF.out (by kernel_rfl) ?_ rfl rfl ?_ ?_
    rotate_left
    · intro w' hF; have f10 := hF.2.1.cell0; have f11 := hF.2.1.cell1; have f20 := hF.2.2.1.cell0; clear hF; go_simp; try rfl
    rotate_left
    · simp only [Act.put]; exact rfl
    refine Calm.take (i := 8) (v := ?_) (a' := ?_) (l' := #[true, true, true, true, true, true, true, true, true, false, false, false, false, false, false, false, false, false, false, false, false, false, false, false, false, false]) (d := some 28) rfl (by kernel_rfl) (by kernel_rfl) (by kernel_rfl) (by kernel_rfl) (fun _ _ _ h => h) HF.out (by kernel_rfl) ?_ rfl rfl ?_ ?_
    rotate_left
    · intro w' hF; clear hF; go_simp; try rfl
    rotate_left
    · simp only [Act.put]; exact rfl
    refine Calm.take (i := 9) (v := ?_) (a' := ?_) (l' := #[true, true, true, true, true, true, true, true, true, true, false, false, false, false, false, false, false, false, false, false, false, false, false, false, false, false]) (d := some 29) rfl (by kernel_rfl) (by kernel_rfl) (by kernel_rfl) (by kernel_rfl) (fun _ _ _ h => h) HF.out rfl ?_ rfl rfl ?_ ?_
    rotate_left
    · intro w' hF; clear hF; go_simp; try rfl
    rotate_left
    · simp only [Act.put]; exact rfl
    refine Calm.take (i := 10) (v := ?_) (a' := ?_) (l' := #[true, true, true, true, true, true, true, true, true, true, true, false, false, false, false, false, false, false, false, false, false, false, false, false, false, false]) (d := some 30) rfl (by kernel_rfl) (by kernel_rfl) (by kernel_rfl) (by kernel_rfl) (fun _ _ _ h => h) HF.out rfl ?_ rfl rfl ?_ ?_
    rotate_left
    · intro w' hF; clear hF; go_simp; try rfl
    rotate_left
    · simp only [Act.put]; exact rfl
    refine Calm.take (i := 11) (v := ?_) (a' := ?_) (l' := #[true, true, true, true, true, true, true, true, true, true, true, true, false, false, false, false, false, false, false, false, false, false, false, false, false, false]) (d := some 31) rfl (by kernel_rfl) (by kernel_rfl) (by kernel_rfl) (by kernel_rfl) (fun _ _ _ h => h) HF.out (by kernel_rfl) ?_ rfl rfl ?_ ?_
    rotate_left
    · intro w' hF; clear hF; go_simp; try rfl
    rotate_left
    · simp only [Act.put]; exact rfl
    refine Calm.take (i := 12) (v := ?_) (a' := ?_) (l' := #[true, true, true, true, true, true, true, true, true, true, true, true, true, false, false, false, false, false, false, false, false, false, false, false, false, false]) (d := some 32) rfl (by kernel_rfl) (by kernel_rfl) (by kernel_rfl) (by kernel_rfl) (fun _ _ _ h => h) HF.out (by kernel_rfl) ?_ rfl rfl ?_ ?_
    rotate_left
    · intro w' hF; have f10 := hF.2.1.cell0; have f11 := hF.2.1.cell1; have f20 := hF.2.2.1.cell0; clear hF; go_simp; try rfl
    rotate_left
    · simp only [Act.put]; exact rfl
    refine Calm.take (i := 13) (v := ?_) (a' := ?_) (l' := #[true, true, true, true, true, true, true, true, true, true, true, true, true, true, false, false, false, false, false, false, false, false, false, false, false, false]) (d := some 33) rfl (by kernel_rfl) (by kernel_rfl) (by kernel_rfl) (by kernel_rfl) (fun _ _ _ h => h) HF.out (by kernel_rfl) ?_ rfl rfl ?_ ?_
    rotate_left
    · intro w' hF; clear hF; go_simp; try rfl
    rotate_left
    · simp only [Act.put]; exact rfl
    refine Calm.take (i := 14) (v := ?_) (a' := ?_) (l' := #[true, true, true, true, true, true, true, true, true, true, true, true, true, true, true, false, false, false, false, false, false, false, false, false, false, false]) (d := some 34) rfl (by kernel_rfl) (by kernel_rfl) (by kernel_rfl) (by kernel_rfl) (fun _ _ _ h => h) HF.out rfl ?_ rfl rfl ?_ ?_
    rotate_left
    · intro w' hF; clear hF; go_simp; try rfl
    rotate_left
    · simp only [Act.put]; exact rfl
    refine Calm.take (i := 15) (v := ?_) (a' := ?_) (l' := #[true, true, true, true, true, true, true, true, true, true, true, true, true, true, true, true, false, false, false, false, false, false, false, false, false, false]) (d := some 35) rfl (by kernel_rfl) (by kernel_rfl) (by kernel_rfl) (by kernel_rfl) (fun _ _ _ h => h) HF.out rfl ?_ rfl rfl ?_ ?_
    rotate_left
    · intro w' hF; clear hF; go_simp; try rfl
    rotate_left
    · simp only [Act.put]; exact rfl
    refine Calm.take (i := 16) (v := ?_) (a' := ?_) (l' := #[true, true, true, true, true, true, true, true, true, true, true, true, true, true, true, true, true, false, false, false, false, false, false, false, false, false]) (d := some 36) rfl (by kernel_rfl) (by kernel_rfl) (by kernel_rfl) (by kernel_rfl) (fun _ _ _ h => h) HF.out (by kernel_rfl) ?_ rfl rfl ?_ ?_
    rotate_left
    · intro w' hF; have f10 := hF.2.1.cell0; have f11 := hF.2.1.cell1; have f20 := hF.2.2.1.cell0; clear hF; go_simp; try rfl
    rotate_left
    · simp only [Act.put]; exact rfl
    refine Calm.one (i := 17) (l' := #[true, true, true, true, true, true, true, true, true, true, true, true, true, true, true, true, true, true, false, false, false, false, false, false, false, false]) (by kernel_rfl) rfl (by kernel_rfl) rfl fun K hK => ?_
    go_simp
    refine (rallP 16 _).mono ?_
    rintro e y1 ⟨v, rfl, hp, hl, hb⟩
    obtain ⟨sa, sc, rfl, hp⟩ := hp
    rw [← NN.out]
    clear hp hl
    have HF' := hide (And.intro (HF.out.1.trans ((hb).mono HF.out.1.size)) (And.intro (HF.out.2.1.step (hb)) (And.intro (HF.out.2.2.1.step (hb)) (HF.out.2.2.2.below (hb)))))
    refine hK _ _ (fun _ => HF'.out) ?_
    clear hK K HF hb
    have HF := hide HF'.out
    clear HF'
    refine Calm.take (i := 18) (v := ?_) (a' := ?_) (l' := #[true, true, true, true, true, true, true, true, true, true, true, true, true, true, true, true, true, true, true, false, false, false, false, false, false, false]) (d := some 38) rfl (by kernel_rfl) (by kernel_rfl) (by kernel_rfl) (by kernel_rfl) (fun _ _ _ h => h) HF.out (by kernel_rfl) ?_ rfl rfl ?_ ?_
    rotate_left
    · intro w' hF; clear hF; go_simp; try rfl
    rotate_left
    · simp only [Act.put]; exact rfl
    refine Calm.take (i := 19) (v := ?_) (a' := ?_) (l' := #[true, true, true, true, true, true, true, true, true, true, true, true, true, true, true, true, true, true, true, true, false, false, false, false, false, false]) (d := some 39) rfl (by kernel_rfl) (by kernel_rfl) (by kernel_rfl) (by kernel_rfl) (fun _ _ _ h => h) HF.out (by kernel_rfl) ?_ rfl rfl ?_ ?_
    rotate_left
    · intro w' hF; clear hF; go_simp; try rfl
    rotate_left
    · simp only [Act.put]; exact rfl
    refine Calm.take (i := 20) (v := ?_) (a' := ?_) (l' := #[true, true, true, true, true, true, true, true, true, true, true, true, true, true, true, true, true, true, true, true, true, false, false, false, false, false]) (d := some 40) rfl (by kernel_rfl) (by kernel_rfl) (by kernel_rfl) (by kernel_rfl) (fun _ _ _ h => h) HF.out rfl ?_ rfl rfl ?_ ?_
    rotate_left
    · intro w' hF; clear hF; go_simp; try rfl
    rotate_left
    · simp only [Act.put]; exact rfl
    refine Calm.take (i := 21) (v := ?_) (a' := ?_) (l' := #[true, true, true, true, true, true, true, true, true, true, true, true, true, true, true, true, true, true, true, true, true, true, false, false, false, false]) (d := some 41) rfl (by kernel_rfl) (by kernel_rfl) (by kernel_rfl) (by kernel_rfl) (fun _ _ _ h => h) HF.out rfl ?_ rfl rfl ?_ ?_
    rotate_left
    · intro w' hF; clear hF; go_simp; try rfl
    rotate_left
    · simp only [Act.put]; exact rfl
    refine Calm.one (i := 22) (l' := #[true, true, true, true, true, true, true, true, true, true, true, true, true, true, true, true, true, true, true, true, true, true, true, false, false, false]) (by kernel_rfl) rfl (by kernel_rfl) rfl fun K hK => ?_
    go_simp
    refine (ptext0 _).mono ?_
    rintro e y2 ⟨rfl, hb⟩
    have HF' := hide (And.intro (HF.out.1.trans ((hb).mono HF.out.1.size)) (And.intro (HF.out.2.1.step (hb)) (And.intro (HF.out.2.2.1.step (hb)) (HF.out.2.2.2.below (hb)))))
    refine hK _ _ (fun _ => HF'.out) ?_
    clear hK K HF hb
    have HF := hide HF'.out
    clear HF'
    refine Calm.take (i := 23) (v := ?_) (a' := ?_) (l' := #[true, true, true, true, true, true, true, true, true, true, true, true, true, true, true, true, true, true, true, true, true, true, true, true, false, false]) (d := some 43) rfl (by kernel_rfl) (by kernel_rfl) (by kernel_rfl) (by kernel_rfl) (fun _ _ _ h => h) HF.out (by kernel_rfl) ?_ rfl rfl ?_ ?_
    rotate_left
    · intro w' hF; clear hF; go_simp; try rfl
    rotate_left
    · simp only [Act.put]; exact rfl
    refine Calm.take (i := 24) (v := ?_) (a' := ?_) (l' := #[true, true, true, true, true, true, true, true, true, true, true, true, true, true, true, true, true, true, true, true, true, true, true, true, true, false]) (d := some 44) rfl (by kernel_rfl) (by kernel_rfl) (by kernel_rfl) (by kernel_rfl) (fun _ _ _ h => h) HF.out rfl ?_ rfl rfl ?_ ?_
    rotate_left
    · intro w' hF; clear hF; go_simp; try rfl
    rotate_left
    · simp only [Act.put]; exact rfl
    refine Calm.take (i := 25) (v := ?_) (a' := ?_) (l' := #[true, true, true, true, true, true, true, true, true, true, true, true, true, true, true, true, true, true, true, true, true, true, true, true, true, true]) (d := some 0) rfl (by kernel_rfl) (by kernel_rfl) (by kernel_rfl) (by kernel_rfl) (fun _ _ _ h => h) HF.out rfl ?_ rfl rfl ?_ ?_
    rotate_left
    · intro w' hF; clear hF; go_simp; try rfl
    rotate_left
    · simp only [Act.put]; exact rfl
    refine Calm.done (by kernel_rfl) ?_
    go_wp2
    exact leaves_tmp rfl _ w true rfl [M] _ HF.out.2.2.2 HF.out.1
end Go.Proofs.YtphohclnendhmaaDoor
