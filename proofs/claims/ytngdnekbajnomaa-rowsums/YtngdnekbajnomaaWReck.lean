/- row's Of, pairs, Add, Sub, Combine, Scale, Neg. -/
import Derived.Test.YtngdnekbajnomaaWEach
import Derived.Test.YtngdnekbajnomaaCalm3
import Derived.Shelf.Abstract
namespace Go.Proofs.Ytngdnekbajnomaa
open Go.RowKit

/-- a list of small numbers in memory -/
def Longs (w : World) (v : Value) (ls : List Int) : Prop :=
  ∃ a cap, v = .slice a ls.length cap ∧ ls.length ≤ cap ∧ cap ≤ maxLen ∧ (∀ i, i < ls.length → -9223372036854775808 ≤ ls.getD i 0 ∧ ls.getD i 0 ≤ 9223372036854775807) ∧ (ls ≠ [] → ∃ b off, a = some ⟨b, off, none⟩ ∧ ∀ i, i < ls.length → w.cell? ⟨b, off + i, none⟩ = some (.int .i64 (ls.getD i 0)))
theorem Longs.below {w w' : World} {v : Value} {ls : List Int} (h : Longs w v ls) (hb : Below w.heap.size w w') : Longs w' v ls := by
  obtain ⟨a, cap, rfl, h1, h2, h4, h3⟩ := h
  refine ⟨a, cap, rfl, h1, h2, h4, fun hx => ?_⟩
  obtain ⟨b, off, rfl, hc⟩ := h3 hx
  exact ⟨b, off, rfl, fun i hi => (hb.cell (World.block_lt_of_cell? w _ (hc i hi))).trans (hc i hi)⟩
theorem one_new (w : World) (v : Value) (t : TypeId) : CellAt (w.alloc (.cells #[v] t)) ⟨w.heap.size, 0, none⟩ v := by
  have hh : (w.alloc (.cells #[v] t)).heap[w.heap.size]? = some (.cells #[v] t (0, 0)) := heap_alloc_new _ _
  generalize w.alloc (.cells #[v] t) = W at *
  refine ⟨?_⟩
  unfold World.cell?
  simp only [hh]
  rfl
theorem mkf (fn : Fn) (first cap : Array Value) (w : World) : (Instr.makeFunc fn first cap).run Try.prog w = .ok (.func fn first cap) w := rfl

set_option maxRecDepth 100000 in
set_option maxHeartbeats 2000000 in
theorem of1_any (i g : Nat) (v : Value) (ls : List Int) (w : World) (hi : i < ls.length) (hg : CellAt w ⟨g, 0, none⟩ v) (h : Longs w v ls) :
    Calls Try.prog 46 #[.int .i64 i, .pointer (some ⟨g, 0, none⟩)] w fun e w' => ∃ v, e = .returned v ∧ IntAt w' v (ls.getD i 0) ∧ Below w.heap.size w w' := by
  obtain ⟨a, cap, rfl, hcap, hm, hbd, hx⟩ := h
  obtain ⟨b, off, rfl, hc⟩ := hx (by intro e; rw [e] at hi; simp at hi)
  have BD := hide (hbd i hi)
  have HP := hide (Box.new w (.bool false) (.slice none 0 0))
  have HB := hide (below_alloc w (.cells #[.bool false, .slice none 0 0] 36))
  have c0 := (hg.step HB.out).out
  have c1 := ((CellAt.mk (hc i hi)).step HB.out).out
  unfold maxLen at hm
  clear hbd hx hc hg
  generalize ls.getD i 0 = z at *
  go_enter Try.func46, Try.ntmps46
  go_wp2_with fail
  refine (iof_any _ _ BD.out.1 BD.out.2).mono ?_
  rintro e w1 ⟨v, rfl, n, hb⟩
  obtain ⟨s, m, l, c, rfl, n⟩ := n.cells
  replace HP := hide (HP.out.step hb)
  replace HB := hide (HB.out.trans (hb.mono HB.out.size))
  have IV := hide n
  clear hb n c0 c1
  have c0 := HP.out.cell0
  have c1 := HP.out.cell1
  have f0 := HP.out.free 0
  have f1 := HP.out.free 1
  go_wp2
  refine ret_int rfl w.heap.size _ _ _ _ rfl (HP.out.put _ _) rfl ?_
  exact ⟨_, rfl, IV.out.keep (HP.out.keeps (by simp) (by simp) _ _), below_put HB.out (Nat.le_refl _) _ _⟩

set_option maxRecDepth 100000 in
set_option maxHeartbeats 2000000 in
theorem rof_row (v : Value) (ls : List Int) (w : World) (h : Longs w v ls) (hl : ls.length ≤ 4000000000) :
    Calls Try.prog 25 #[v] w fun e w' => e = .returned (.slice (some ⟨w.heap.size + 1, 0, none⟩) ls.length ls.length) ∧ IRow w' (w.heap.size + 1) ls ∧ Below w.heap.size w w' := by
  have H0 := hide h
  obtain ⟨a, cap, rfl, hcap, hm, _, _⟩ := h
  have HG := hide (one_new w (.slice a ls.length cap) 78)
  have HB := hide (below_alloc w (.cells #[.slice a ls.length cap] 78))
  have hmk := mkf
  have c0 := HG.out.out
  unfold maxLen at hm
  go_enter Try.func25, Try.ntmps25
  go_wp2_with fail
  refine (each_any ls.length 46 #[.pointer (some ⟨w.heap.size, 0, none⟩)] (fun i => ls.getD i 0) _ hl (enters_of Try.func46 (by kernel_rfl) rfl) fun i w' hi hb => of1_any i w.heap.size _ ls w' hi (HG.out.step hb) ((H0.out.below HB.out).below hb)).mono ?_
  rintro e w1 ⟨rfl, hr, hb⟩
  have HR := hide hr
  replace HB := hide (HB.out.trans (hb.mono HB.out.size))
  clear hr hb c0
  go_wp2
  go_ret
  refine ⟨by simp, ?_, HB.out⟩
  have e : (List.range ls.length).map (fun i => ls.getD i 0) = ls := by
    apply List.ext_getElem
    · simp
    · intro i h1 h2; simp [h2]
  have := HR.out
  rw [e] at this
  simpa using this

set_option maxRecDepth 100000 in
set_option maxHeartbeats 4000000 in
theorem pairs1_any (i kf : Nat) (cap : Array Value) (hen : ∀ args w, (callFunc kf args).run Try.prog w = .ok (.enter kf args) w) (ga gb gf : Nat) (va vb : Value) (xs ys : List Int) (z : Int) (w : World) (hi : i < xs.length) (hl : ys.length = xs.length)
    (ha : CellAt w ⟨ga, 0, none⟩ va) (hb : CellAt w ⟨gb, 0, none⟩ vb) (hf : CellAt w ⟨gf, 0, none⟩ (.func (.func kf) #[] cap)) (h1 : Ints w va xs) (h2 : Ints w vb ys)
    (hc : ∀ (w' : World) (v1 v2 : Value), Below w.heap.size w w' → IntAt w' v1 (xs.getD i 0) → IntAt w' v2 (ys.getD i 0) → Calls Try.prog kf (#[v1, v2] ++ cap) w' fun e w'' => ∃ v, e = .returned v ∧ IntAt w'' v z ∧ Below w'.heap.size w' w'') :
    Calls Try.prog 50 #[.int .i64 i, .pointer (some ⟨gf, 0, none⟩), .pointer (some ⟨ga, 0, none⟩), .pointer (some ⟨gb, 0, none⟩)] w fun e w' => ∃ v, e = .returned v ∧ IntAt w' v z ∧ Below w.heap.size w w' := by
  obtain ⟨aa, ca, rfl, _, hma, _⟩ := id h1
  obtain ⟨ab, cb, rfl, _, hmb, _⟩ := id h2
  obtain ⟨b1, o1, rfl, s1, m1, l1, c1, k1, k2, k3⟩ := h1.at hi
  obtain ⟨b2, o2, rfl, s2, m2, l2, c2, q1, q2, q3⟩ := h2.at (i := i) (by omega)
  have HC := hide hc
  have HP := hide (Box.new w (.bool false) (.slice none 0 0))
  have HB := hide (below_alloc w (.cells #[.bool false, .slice none 0 0] 36))
  have KA := hide (ha.step HB.out)
  have KB := hide (hb.step HB.out)
  have KF := hide (hf.step HB.out)
  have K1 := hide (k1.step HB.out)
  have K2 := hide (k2.step HB.out)
  have Q1 := hide (q1.step HB.out)
  have Q2 := hide (q2.step HB.out)
  have I1 := hide (k3.below HB.out)
  have I2 := hide (q3.below HB.out)
  have NE := hide (And.intro (World.block_lt_of_cell? w _ ha.out) (And.intro (World.block_lt_of_cell? w _ hb.out) (And.intro (World.block_lt_of_cell? w _ hf.out) (And.intro (World.block_lt_of_cell? w _ k1.out) (World.block_lt_of_cell? w _ q1.out)))))
  unfold maxLen at hma hmb
  have hi2 : i < ys.length := by omega
  clear hc ha hb hf h1 h2 k1 k2 k3 q1 q2 q3
  go_enter Try.func50, Try.ntmps50
  go_wp2_with fail
  generalize w.alloc (.cells #[.bool false, .slice none 0 0] 36) = w0 at *
  refine wp_calm (fun w' => Below w.heap.size w w' ∧ Box w' w.heap.size (.bool false) (.slice none 0 0) ∧ CellAt w' ⟨ga, 0, none⟩ (.slice (some ⟨b1, o1, none⟩) xs.length ca) ∧ CellAt w' ⟨gb, 0, none⟩ (.slice (some ⟨b2, o2, none⟩) ys.length cb) ∧ CellAt w' ⟨gf, 0, none⟩ (.func (.func kf) #[] cap) ∧ CellAt w' ⟨b1, o1 + i * 2, none⟩ (.bool s1) ∧ CellAt w' ⟨b1, o1 + i * 2 + 1, none⟩ (.slice m1 l1 c1) ∧ CellAt w' ⟨b2, o2 + i * 2, none⟩ (.bool s2) ∧ CellAt w' ⟨b2, o2 + i * 2 + 1, none⟩ (.slice m2 l2 c2) ∧ IntAt w' (.agg #[.bool s1, .slice m1 l1 c1]) (xs.getD i 0) ∧ IntAt w' (.agg #[.bool s2, .slice m2 l2 c2]) (ys.getD i 0)) (fun j => j != 10) 11 #[false, false, false, false, false, false, false, false, false, false, false] (by kernel_rfl) rfl rfl ?_
  have HF := hide (And.intro (HB.out.drew) (And.intro (HP.out.drew) (And.intro (KA.out.drew) (And.intro (KB.out.drew) (And.intro (KF.out.drew) (And.intro (K1.out.drew) (And.intro (K2.out.drew) (And.intro (Q1.out.drew) (And.intro (Q2.out.drew) (And.intro (I1.out.drew) (I2.out.drew)))))))))))
  generalize w0.drew = w0d at *
  refine Calm.take (i := 0) (v := ?_) (a' := ?_) (l' := #[true, false, false, false, false, false, false, false, false, false, false]) (d := some 6) rfl (by kernel_rfl) (by kernel_rfl) (by kernel_rfl) (by kernel_rfl) (fun _ _ _ h => h) HF.out rfl ?_ rfl rfl ?_ ?_
  rotate_left
  · intro w' hF; have f10 := hF.2.1.cell0; have f11 := hF.2.1.cell1; have f20 := hF.2.2.1.out; have f30 := hF.2.2.2.1.out; have f40 := hF.2.2.2.2.1.out; have f50 := hF.2.2.2.2.2.1.out; have f60 := hF.2.2.2.2.2.2.1.out; have f70 := hF.2.2.2.2.2.2.2.1.out; have f80 := hF.2.2.2.2.2.2.2.2.1.out; clear hF; go_simp; try rfl
  rotate_left
  · simp only [Act.put]; exact rfl
  refine Calm.take (i := 1) (v := ?_) (a' := ?_) (l' := #[true, true, false, false, false, false, false, false, false, false, false]) (d := some 7) rfl (by kernel_rfl) (by kernel_rfl) (by kernel_rfl) (by kernel_rfl) (fun _ _ _ h => h) HF.out rfl ?_ rfl rfl ?_ ?_
  rotate_left
  · intro w' hF; have f10 := hF.2.1.cell0; have f11 := hF.2.1.cell1; have f20 := hF.2.2.1.out; have f30 := hF.2.2.2.1.out; have f40 := hF.2.2.2.2.1.out; have f50 := hF.2.2.2.2.2.1.out; have f60 := hF.2.2.2.2.2.2.1.out; have f70 := hF.2.2.2.2.2.2.2.1.out; have f80 := hF.2.2.2.2.2.2.2.2.1.out; clear hF; go_simp; try rfl
  rotate_left
  · simp only [Act.put]; exact rfl
  refine Calm.take (i := 2) (v := ?_) (a' := ?_) (l' := #[true, true, true, false, false, false, false, false, false, false, false]) (d := some 8) rfl (by kernel_rfl) (by kernel_rfl) (by kernel_rfl) (by kernel_rfl) (fun _ _ _ h => h) HF.out rfl ?_ rfl rfl ?_ ?_
  rotate_left
  · intro w' hF; clear hF; go_simp; try rfl
  rotate_left
  · simp only [Act.put]; exact rfl
  refine Calm.take (i := 3) (v := ?_) (a' := ?_) (l' := #[true, true, true, true, false, false, false, false, false, false, false]) (d := some 9) rfl (by kernel_rfl) (by kernel_rfl) (by kernel_rfl) (by kernel_rfl) (fun _ _ _ h => h) HF.out rfl ?_ rfl rfl ?_ ?_
  rotate_left
  · intro w' hF; clear hF; go_simp; try rfl
  rotate_left
  · simp only [Act.put]; exact rfl
  refine Calm.take (i := 4) (v := ?_) (a' := ?_) (l' := #[true, true, true, true, true, false, false, false, false, false, false]) (d := some 10) rfl (by kernel_rfl) (by kernel_rfl) (by kernel_rfl) (by kernel_rfl) (fun _ _ _ h => h) HF.out rfl ?_ rfl rfl ?_ ?_
  rotate_left
  · intro w' hF; have f10 := hF.2.1.cell0; have f11 := hF.2.1.cell1; have f20 := hF.2.2.1.out; have f30 := hF.2.2.2.1.out; have f40 := hF.2.2.2.2.1.out; have f50 := hF.2.2.2.2.2.1.out; have f60 := hF.2.2.2.2.2.2.1.out; have f70 := hF.2.2.2.2.2.2.2.1.out; have f80 := hF.2.2.2.2.2.2.2.2.1.out; clear hF; go_simp; try rfl
  rotate_left
  · simp only [Act.put]; exact rfl
  refine Calm.take (i := 5) (v := ?_) (a' := ?_) (l' := #[true, true, true, true, true, true, false, false, false, false, false]) (d := some 11) rfl (by kernel_rfl) (by kernel_rfl) (by kernel_rfl) (by kernel_rfl) (fun _ _ _ h => h) HF.out rfl ?_ rfl rfl ?_ ?_
  rotate_left
  · intro w' hF; have f10 := hF.2.1.cell0; have f11 := hF.2.1.cell1; have f20 := hF.2.2.1.out; have f30 := hF.2.2.2.1.out; have f40 := hF.2.2.2.2.1.out; have f50 := hF.2.2.2.2.2.1.out; have f60 := hF.2.2.2.2.2.2.1.out; have f70 := hF.2.2.2.2.2.2.2.1.out; have f80 := hF.2.2.2.2.2.2.2.2.1.out; clear hF; go_simp; try rfl
  rotate_left
  · simp only [Act.put]; exact rfl
  refine Calm.take (i := 6) (v := ?_) (a' := ?_) (l' := #[true, true, true, true, true, true, true, false, false, false, false]) (d := some 12) rfl (by kernel_rfl) (by kernel_rfl) (by kernel_rfl) (by kernel_rfl) (fun _ _ _ h => h) HF.out rfl ?_ rfl rfl ?_ ?_
  rotate_left
  · intro w' hF; clear hF; go_simp; try rfl
  rotate_left
  · simp only [Act.put]; exact rfl
  refine Calm.take (i := 7) (v := ?_) (a' := ?_) (l' := #[true, true, true, true, true, true, true, true, false, false, false]) (d := some 13) rfl (by kernel_rfl) (by kernel_rfl) (by kernel_rfl) (by kernel_rfl) (fun _ _ _ h => h) HF.out rfl ?_ rfl rfl ?_ ?_
  rotate_left
  · intro w' hF; clear hF; go_simp; try rfl
  rotate_left
  · simp only [Act.put]; exact rfl
  refine Calm.take (i := 8) (v := ?_) (a' := ?_) (l' := #[true, true, true, true, true, true, true, true, true, false, false]) (d := some 14) rfl (by kernel_rfl) (by kernel_rfl) (by kernel_rfl) (by kernel_rfl) (fun _ _ _ h => h) HF.out rfl ?_ rfl rfl ?_ ?_
  rotate_left
  · intro w' hF; have f10 := hF.2.1.cell0; have f11 := hF.2.1.cell1; have f20 := hF.2.2.1.out; have f30 := hF.2.2.2.1.out; have f40 := hF.2.2.2.2.1.out; have f50 := hF.2.2.2.2.2.1.out; have f60 := hF.2.2.2.2.2.2.1.out; have f70 := hF.2.2.2.2.2.2.2.1.out; have f80 := hF.2.2.2.2.2.2.2.2.1.out; clear hF; go_simp; try rfl
  rotate_left
  · simp only [Act.put]; exact rfl
  refine Calm.one (i := 9) (l' := #[true, true, true, true, true, true, true, true, true, true, false]) (by kernel_rfl) rfl rfl rfl fun K hK => ?_
  go_simp
  refine (HC.out _ _ _ HF.out.1 HF.out.2.2.2.2.2.2.2.2.2.1 HF.out.2.2.2.2.2.2.2.2.2.2).mono ?_
  rintro e w1 ⟨v, rfl, n, hb⟩
  obtain ⟨s, m, l, c, rfl, n⟩ := n.cells
  have HF' := hide (And.intro (HF.out.1.trans ((hb).mono HF.out.1.size)) (And.intro (HF.out.2.1.step (hb)) (And.intro (HF.out.2.2.1.step (hb)) (And.intro (HF.out.2.2.2.1.step (hb)) (And.intro (HF.out.2.2.2.2.1.step (hb)) (And.intro (HF.out.2.2.2.2.2.1.step (hb)) (And.intro (HF.out.2.2.2.2.2.2.1.step (hb)) (And.intro (HF.out.2.2.2.2.2.2.2.1.step (hb)) (And.intro (HF.out.2.2.2.2.2.2.2.2.1.step (hb)) (And.intro (HF.out.2.2.2.2.2.2.2.2.2.1.below (hb)) (HF.out.2.2.2.2.2.2.2.2.2.2.below (hb))))))))))))
  have IV := hide (n)
  refine hK _ _ (fun _ => HF'.out) ?_
  clear hK K HF hb n
  have HF := hide HF'.out
  clear HF'
  refine Calm.one (i := 10) (l' := #[true, true, true, true, true, true, true, true, true, true, true]) (by kernel_rfl) rfl rfl rfl fun K hK => ?_
  have hc0 := HF.out.2.1.cell0
  have hc1 := HF.out.2.1.cell1
  have hf0 := HF.out.2.1.free 0
  have hf1 := HF.out.2.1.free 1
  go_simp
  refine hK _ _ (fun h => absurd h (by decide)) ?_
  clear hK K
  refine Calm.done (by kernel_rfl) ?_
  clear hc0 hc1 hf0 hf1
  go_wp2
  refine ret_int rfl w.heap.size _ _ _ _ rfl (HF.out.2.1.put _ _) rfl ?_
  exact ⟨_, rfl, IV.out.keep (HF.out.2.1.keeps (by simp) (by simp) _ _), below_put HF.out.1 (Nat.le_refl _) _ _⟩

set_option maxRecDepth 100000 in
set_option maxHeartbeats 2000000 in
theorem pairs_no (va vb : Value) (kf : Nat) (cap : Array Value) (xs ys : List Int) (w : World) (h1 : Ints w va xs) (h2 : Ints w vb ys) (hl : xs.length ≠ ys.length) :
    Calls Try.prog 30 #[va, vb, .func (.func kf) #[] cap] w fun e w' => e = .returned (.tuple #[.slice none 0 0, .int .i64 5]) ∧ Below w.heap.size w w' := by
  obtain ⟨aa, ca, rfl, _, hma, _⟩ := h1
  obtain ⟨ab, cb, rfl, _, hmb, _⟩ := h2
  have HB := hide ((below_alloc w (.cells #[.slice aa xs.length ca] 30)).trans (((below_alloc (w.alloc (.cells #[.slice aa xs.length ca] 30)) (.cells #[.slice ab ys.length cb] 30)).trans ((below_alloc _ (.cells #[.func (.func kf) #[] cap] 65)).mono (by simp only [World.size_alloc]; omega))).mono (by simp only [World.size_alloc]; omega)))
  have hne : ((xs.length : Int) = (ys.length : Int)) = False := by simp; omega
  go_enter Try.func30, Try.ntmps30
  go_wp2
  go_ret2
  exact ⟨rfl, HB.out⟩

set_option maxRecDepth 100000 in
set_option maxHeartbeats 2000000 in
theorem pairs_any (kf : Nat) (cap : Array Value) (hen : ∀ args w, (callFunc kf args).run Try.prog w = .ok (.enter kf args) w) (va vb : Value) (xs ys : List Int) (f : Nat → Int) (w : World) (h1 : Ints w va xs) (h2 : Ints w vb ys) (hl : ys.length = xs.length) (hm : xs.length ≤ 4000000000)
    (hc : ∀ (i : Nat) (w' : World) (v1 v2 : Value), i < xs.length → Below w.heap.size w w' → IntAt w' v1 (xs.getD i 0) → IntAt w' v2 (ys.getD i 0) → Calls Try.prog kf (#[v1, v2] ++ cap) w' fun e w'' => ∃ v, e = .returned v ∧ IntAt w'' v (f i) ∧ Below w'.heap.size w' w'') :
    Calls Try.prog 30 #[va, vb, .func (.func kf) #[] cap] w fun e w' => ∃ b, e = .returned (.tuple #[.slice (some ⟨b, 0, none⟩) xs.length xs.length, .int .i64 0]) ∧ w.heap.size ≤ b ∧ IRow w' b ((List.range xs.length).map f) ∧ Below w.heap.size w w' := by
  have H1 := hide h1
  have H2 := hide h2
  have HC := hide hc
  obtain ⟨aa, ca, rfl, _, hma, _⟩ := h1
  obtain ⟨ab, cb, rfl, _, hmb, _⟩ := h2
  have W1 := hide (one_new w (.slice aa xs.length ca) 30)
  have W2 := hide (one_new (w.alloc (.cells #[.slice aa xs.length ca] 30)) (.slice ab ys.length cb) 30)
  have W3 := hide (one_new ((w.alloc (.cells #[.slice aa xs.length ca] 30)).alloc (.cells #[.slice ab ys.length cb] 30)) (.func (.func kf) #[] cap) 65)
  replace W1 := hide ((W1.out.step (below_alloc _ (.cells #[.slice ab ys.length cb] 30))).step (below_alloc _ (.cells #[.func (.func kf) #[] cap] 65)))
  replace W2 := hide (W2.out.step (below_alloc _ (.cells #[.func (.func kf) #[] cap] 65)))
  simp only [World.size_alloc] at W2 W3
  have HB := hide ((below_alloc w (.cells #[.slice aa xs.length ca] 30)).trans (((below_alloc (w.alloc (.cells #[.slice aa xs.length ca] 30)) (.cells #[.slice ab ys.length cb] 30)).trans ((below_alloc _ (.cells #[.func (.func kf) #[] cap] 65)).mono (by simp only [World.size_alloc]; omega))).mono (by simp only [World.size_alloc]; omega)))
  have hmk := mkf
  generalize hyl : ys.length = ny at *
  subst hl
  have HL := hide hyl
  clear hc hyl
  go_enter Try.func30, Try.ntmps30
  go_wp2_with fail
  generalize ((w.alloc (.cells #[.slice aa xs.length ca] 30)).alloc (.cells #[.slice ab xs.length cb] 30)).alloc (.cells #[.func (.func kf) #[] cap] 65) = w0 at *
  refine (each_any xs.length 50 #[.pointer (some ⟨w.heap.size + 1 + 1, 0, none⟩), .pointer (some ⟨w.heap.size, 0, none⟩), .pointer (some ⟨w.heap.size + 1, 0, none⟩)] f _ hm (enters_of Try.func50 (by kernel_rfl) rfl) fun i w' hi hb => pairs1_any i kf cap hen w.heap.size (w.heap.size + 1) (w.heap.size + 1 + 1) _ _ xs ys (f i) w' hi HL.out (W1.out.step hb) (W2.out.step hb) (W3.out.step hb) ((H1.out.below HB.out).below hb) ((H2.out.below HB.out).below hb) fun w'' v1 v2 hb' i1 i2 => HC.out i w'' v1 v2 hi (HB.out.trans ((hb.trans (hb'.mono hb.size)).mono HB.out.size)) i1 i2).mono ?_
  rintro e w1 ⟨rfl, hr, hb⟩
  have HR := hide hr
  have HS := hide HB.out.size
  replace HB := hide (HB.out.trans (hb.mono HB.out.size))
  clear hr hb
  go_wp2
  go_ret2
  exact ⟨_, rfl, HS.out, HR.out, HB.out⟩

/-- numbers of at most so many limbs -/
def SzL (k : Nat) (xs : List Int) : Prop := ∀ i, SzI k (xs.getD i 0)

set_option maxRecDepth 100000 in
set_option maxHeartbeats 2000000 in
theorem radd_any (va vb : Value) (xs ys : List Int) (k : Nat) (w : World) (h1 : Ints w va xs) (h2 : Ints w vb ys) (hl : ys.length = xs.length) (hm : xs.length ≤ 4000000000) (s1 : SzL k xs) (s2 : SzL k ys) (hk : k ≤ 1000000000) :
    Calls Try.prog 9 #[va, vb] w fun e w' => ∃ b, e = .returned (.tuple #[.slice (some ⟨b, 0, none⟩) xs.length xs.length, .int .i64 0]) ∧ w.heap.size ≤ b ∧ IRow w' b ((List.range xs.length).map fun i => xs.getD i 0 + ys.getD i 0) ∧ Below w.heap.size w w' := by
  have H1 := hide h1
  have H2 := hide h2
  have S1 := hide s1
  have S2 := hide s2
  obtain ⟨aa, ca, rfl, _, hma, _⟩ := h1
  obtain ⟨ab, cb, rfl, _, hmb, _⟩ := h2
  clear s1 s2
  generalize hyl : ys.length = ny at *
  subst hl
  have HL := hide hyl
  clear hyl
  go_enter Try.func9, Try.ntmps9
  go_wp2_with fail
  refine (pairs_any 31 #[] (enters_of Try.func31 (by kernel_rfl) rfl) _ _ xs ys (fun i => xs.getD i 0 + ys.getD i 0) _ H1.out H2.out HL.out hm fun i w' v1 v2 _ _ i1 i2 => by rw [Array.append_empty]; exact iadd_any v1 v2 (xs.getD i 0) (ys.getD i 0) w' i1 i2 (SzI.len (S1.out i) hk) (SzI.len (S2.out i) hk)).mono ?_
  rintro e w1 ⟨b, rfl, hsb, hr, hb⟩
  have HR := hide hr
  have HB := hide hb
  have HS := hide hsb
  clear hr hb hsb
  go_wp2
  go_ret2
  exact ⟨_, rfl, HS.out, HR.out, HB.out⟩

set_option maxRecDepth 100000 in
set_option maxHeartbeats 2000000 in
theorem rsub_any (va vb : Value) (xs ys : List Int) (k : Nat) (w : World) (h1 : Ints w va xs) (h2 : Ints w vb ys) (hl : ys.length = xs.length) (hm : xs.length ≤ 4000000000) (s1 : SzL k xs) (s2 : SzL k ys) (hk : k ≤ 1000000000) :
    Calls Try.prog 10 #[va, vb] w fun e w' => ∃ b, e = .returned (.tuple #[.slice (some ⟨b, 0, none⟩) xs.length xs.length, .int .i64 0]) ∧ w.heap.size ≤ b ∧ IRow w' b ((List.range xs.length).map fun i => xs.getD i 0 - ys.getD i 0) ∧ Below w.heap.size w w' := by
  have H1 := hide h1
  have H2 := hide h2
  have S1 := hide s1
  have S2 := hide s2
  obtain ⟨aa, ca, rfl, _, hma, _⟩ := h1
  obtain ⟨ab, cb, rfl, _, hmb, _⟩ := h2
  clear s1 s2
  generalize hyl : ys.length = ny at *
  subst hl
  have HL := hide hyl
  clear hyl
  go_enter Try.func10, Try.ntmps10
  go_wp2_with fail
  refine (pairs_any 32 #[] (enters_of Try.func32 (by kernel_rfl) rfl) _ _ xs ys (fun i => xs.getD i 0 - ys.getD i 0) _ H1.out H2.out HL.out hm fun i w' v1 v2 _ _ i1 i2 => by rw [Array.append_empty]; exact isub_any v1 v2 (xs.getD i 0) (ys.getD i 0) w' i1 i2 (SzI.len (S1.out i) hk) (SzI.len (S2.out i) hk)).mono ?_
  rintro e w1 ⟨b, rfl, hsb, hr, hb⟩
  have HR := hide hr
  have HB := hide hb
  have HS := hide hsb
  clear hr hb hsb
  go_wp2
  go_ret2
  exact ⟨_, rfl, HS.out, HR.out, HB.out⟩
end Go.Proofs.Ytngdnekbajnomaa
