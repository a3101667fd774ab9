/- swagelaw01.LimbTexts answers true at all lists of limbs, all texts, wherever the digits are left, and turns nothing that was there. -/
import Derived.Test.YtmnllmonbdjnnaaRefText
import Derived.Test.YtmnllmonbdjnnaaRefRead
import Derived.Test.YtmnllmonbdjnnaaWorks
import Derived.Test.YtmnllmonbdjnnaaRoom
import Derived.Test.YtmnllmonbdjnnaaEqual
import Derived.Test.YtmnllmonbdjnnaaCalm
import Derived.RegionTactic
import Derived.Deep.Cut
namespace Go.Proofs.Ytmnllmonbdjnnaa
open Go.RowKit Go.Shelf
attribute [local go_sem] Oper.semAt_some

theorem boxed_step {W W' : World} {B : Nat} {t : TypeId} {v : Value} (h : Boxed W B t v) (hb : Below W.heap.size W W') : Boxed W' B t v := (hb.block B h.lt).trans h
/-- all blocks but one lie as they lay -/
structure SameBut (g : Nat) (W W' : World) : Prop where
  base : Below 0 W W'
  block : ∀ k, k < W.heap.size → k ≠ g → W'.heap[k]? = W.heap[k]?
theorem SameBut.refl (g : Nat) (W : World) : SameBut g W W := ⟨Below.refl _ _, fun _ _ _ => rfl⟩
theorem SameBut.trans {g : Nat} {A B C : World} (h : SameBut g A B) (k : SameBut g B C) : SameBut g A C :=
  ⟨h.base.trans k.base, fun i h1 h2 => (k.block i (Nat.lt_of_lt_of_le h1 h.base.size) h2).trans (h.block i h1 h2)⟩
theorem SameBut.set {g : Nat} {A B : World} (h : SameBut g A B) (v : Value) : SameBut g A (B.setCell ⟨g, 0, none⟩ v) :=
  ⟨h.base.setCell (Nat.zero_le _) v, fun i h1 h2 => by rw [Below.heap_setCell _ _ _ _ h2]; exact h.block i h1 h2⟩
theorem SameBut.boxed {g : Nat} {A B : World} (h : SameBut g A B) {b : Nat} {t : TypeId} {v : Value} (k : Boxed A b t v) (hne : b ≠ g) : Boxed B b t v := (h.block b k.lt hne).trans k
theorem SameBut.below {g T : Nat} {w A B : World} (h : SameBut g A B) (hb : Below T w A) (hg : T ≤ g) (hT : T ≤ A.heap.size) : Below T w B :=
  ⟨h.base.os.trans hb.os, h.base.tape.trans hb.tape, h.base.output.trans hb.output, Nat.le_trans hb.size h.base.size, fun i hi => (h.block i (by omega) (by omega)).trans (hb.block i hi)⟩
theorem SameBut.keeps {g lo hi : Nat} {A B : World} (h : SameBut g A B) (hg : hi ≤ g) (hT : hi ≤ A.heap.size) : Keeps lo hi A B := fun k _ h2 => h.block k (by omega) (by omega)
theorem sameBut_from {β : Type} (g : Nat) (A : World) : OwnFrom A.heap.size (fun (_ : β) W => SameBut g A W) := fun _ _ _ _ hs hg hr =>
  ⟨hs.base.grown hg (Nat.zero_le _) (fun _ _ => Nat.zero_le _), fun i h1 h2 => (hg.block i (Nat.lt_of_lt_of_le h1 hs.base.size) (fun e => by have := (hr i e.symm).1; omega)).trans (hs.block i h1 h2)⟩

/-- as bodyPostM, and no panic -/
def postN (n : Nat) (fn : Func) (R : Ending → World → Prop) : Exit → Act → World → Prop
  | .normal, a, w | .ret, a, w => LeavesInM Fence.wide n Try.prog fn a.tmps R a.defers .returning w
  | _, _, _ => False
theorem postN_sub {n : Nat} {fn : Func} {R : Ending → World → Prop} (e : Exit) (a : Act) (w : World) (h : postN n fn R e a w) : bodyPostM Fence.wide n Try.prog fn R e a w := by
  cases e <;> first | exact h | exact h.elim
set_option maxRecDepth 100000 in
theorem callsIn_marksN {n : Nat} {f : FuncId} {fn : Func} {c : Code} {args : Array Value} {w : World} {R : Ending → World → Prop} (hf : Try.prog.funcs[f]? = some fn) (hb : fn.body = some c)
    (h : c.wp Try.prog (postN n fn R) { tmps := args ++ Array.replicate (fn.ntmps - args.size) undef, defers := [] } w) : Calls Try.prog f args w R :=
  (callsIn_wide (n := n)).1 (callsIn_of_wp_marks hf hb trivial (wpIn_wide.2 (wp_mono h postN_sub)) rfl)
theorem someI_from {β : Type} (B g : Nat) : OwnFrom B (fun (_ : β) W => ∃ n : Int, Boxed W g 3 (.int .i64 n)) := fun _ W W' row ⟨n, h⟩ hg hr => ⟨n, (Go.Own.from (boxed_own g 3 (fun _ : Unit => .int .i64 n)) B) () W W' row h hg hr⟩
theorem bt_strL (xs : List Int) (i : Nat) (n : Nat) (h : xs[i]? = some (n : Int)) (hn : n < 256) : bt (strOfNums xs) i = n := by
  obtain ⟨hi, he⟩ := List.getElem?_eq_some_iff.1 h
  have hs : i < (strOfNums xs).size := by rw [strOfNums_size]; exact hi
  rw [← bt_get _ _ hs]
  have : (strOfNums xs)[i] = UInt8.ofNat (xs[i].toNat) := by
    show (strOfNums xs).data[i]'hs = _
    simp [strOfNums]
  rw [this, he]
  simp
  omega
theorem bt_bytsL (ds : List Nat) (i d : Nat) (h : ds[i]? = some d) (hd : d ≤ 9) : bt (strOfNums (byts ds)) i = 48 + d := by
  refine bt_strL _ _ (48 + d) ?_ (by omega)
  unfold byts
  rw [List.getElem?_map, h]; rfl
theorem told_few {xs : List Nat} (h : Ok xs) (hl : xs.length ≤ 160) : (toldD (grp (val xs))).length ≤ 32000000001 := by
  have h1 : (toldD (grp (val xs))).length = (dec (val xs)).length := by rw [← told_len, List.length_map]
  have h2 := dec_bound (val_lt h)
  omega
theorem told_bt (n i : Nat) (h : i < (toldD (grp n)).length) : bt (txt n) i = 48 + ((toldD (grp n))[i]).1 := by
  unfold txt
  refine bt_bytsL _ _ _ ?_ (by have := ((toldD (grp n))[i]).2; omega)
  rw [← told_len, List.getElem?_map, List.getElem?_eq_getElem h]; rfl
theorem told_size (n : Nat) : (txt n).size = (toldD (grp n)).length := by unfold txt; rw [strOfNums_size]; unfold byts; rw [List.length_map, ← told_len, List.length_map]
theorem res_bool {fn : Func} {p : Tmp} (h : fn.results = #[.cell p 4]) (tmps : Array Value) (w : World) (g : Nat) (b : Bool) (hp : tmps.getD p undef = .pointer (some ⟨g, 0, none⟩)) (hg : Boxed w g 4 (.bool b)) :
    (results fn tmps).run Try.prog w = .ok (.bool b) w := by
  have hp' : tmps[p]?.getD undef = .pointer (some ⟨g, 0, none⟩) := by simpa using hp
  have hc := hg.cell
  simp [results, h, hp', asAddr]
  go_simp

theorem two_marks {n : Nat} {fn : Func} {p : Tmp} (h : fn.results = #[.cell p 4]) (tmps : Array Value) (We w : World) (g D1 D2 : Nat) (b : Bool) (hp : tmps.getD p undef = .pointer (some ⟨g, 0, none⟩)) (h1 : We.heap[D1]? = some (.deferred (some []))) (h2 : We.heap[D2]? = some (.deferred (some [])))
    (hne : D1 ≠ D2) (hR : Boxed We g 4 (.bool b)) (hb : Below w.heap.size w We) (hw1 : w.heap.size ≤ D1) (hw2 : w.heap.size ≤ D2) :
    LeavesInM Fence.wide n Try.prog fn tmps (fun e w' => e = .returned (.bool b) ∧ Below w.heap.size w w') [{ target := .collected D2, args := #[] }, { target := .collected D1, args := #[] }] .returning We := by
  have r1 : g ≠ D1 := by rintro rfl; rw [show We.heap[g]? = _ from hR] at h1; cases h1
  have r2 : g ≠ D2 := by rintro rfl; rw [show We.heap[g]? = _ from hR] at h2; cases h2
  have k1 := (World.putObj_heap_other (w := We) (o := .deferred none) hne).trans h1
  refine ⟨by simp, .inl ⟨_, _, rfl, run_takeDeferred h2, ⟨by simp, .inl ⟨_, _, rfl, run_takeDeferred k1, ?_⟩⟩⟩⟩
  refine ⟨_, res_bool h _ _ g b hp ((World.putObj_heap_other r1).trans ((World.putObj_heap_other r2).trans hR)), rfl, ?_⟩
  have b2 := belowK_b (w := w) (Nat.le_refl _) We D2 _ (.deferred none) hw2 h2 rfl rfl
  exact (hb.trans b2).trans (belowK_b (w := w) (Nat.le_refl _) _ D1 _ (.deferred none) hw1 k1 rfl rfl)

set_option maxRecDepth 100000 in
set_option maxHeartbeats 8000000 in
theorem texts_walk (v0 : Value) (xs : List Nat) (s : ByteArray) (early : Int) (w : World) (h0 : Nums w v0 xs) (hs : s.size ≤ 9223372036854775807) (he : -9223372036854775808 ≤ early ∧ early ≤ 9223372036854775807) :
    Calls Try.prog 3 #[v0, .string s, .int .i64 early] w fun e w' => e = .returned (.bool true) ∧ Below w.heap.size w w' := by
  have N0 := hide h0
  obtain ⟨o0, a0, c0, rfl, hl0, hm0, _⟩ := h0
  unfold maxLen at hm0
  refine callsIn_marksN (n := 3) Try.func3 rfl ?_
  simp only [Try.ntmps3, List.size_toArray, List.length_cons, List.length_nil, Nat.reduceAdd, Nat.reduceSub, Array.replicate_succ, Array.replicate_zero, List.push_toArray, List.append_toArray, List.nil_append, List.cons_append]
  go_wp2_with fail
  have HB := hide (((Below.refl w.heap.size w).alloc (Nat.le_refl _) (.cells #[.int .i64 early] 3)).alloc (by simp) (.cells #[.bool false] 4))
  have BE := hide ((Boxed.new w 3 (.int .i64 early)).alloc (.cells #[.bool false] 4))
  have BR := Boxed.new (w.alloc (.cells #[.int .i64 early] 3)) 4 (.bool false)
  rw [World.size_alloc] at BR
  replace BR := hide BR
  generalize (w.alloc (.cells #[.int .i64 early] 3)).alloc (.cells #[.bool false] 4) = w1 at *
  refine (works_any _).mono ?_
  rintro e w2 ⟨rfl, hb⟩
  replace HB := hide (HB.out.trans ((hb).mono HB.out.size))
  replace BE := hide (boxed_step BE.out (hb))
  replace BR := hide (boxed_step BR.out (hb))
  clear hb
  go_wp2_with fail
  have hls : ∀ W : World, Lists (W.alloc (.cells #[.slice a0 xs.length c0] 22)) W.heap.size [(a0, xs.length, c0)] := by
    intro W i hi'
    match i, hi' with
    | 0, _ => simp
  refine (long_any _ [(a0, xs.length, c0)] _ (hls _) (by simp) (by intro p hp; simp at hp; subst hp; dsimp only; omega)).mono ?_
  rintro e w3 ⟨rfl, rfl⟩
  have hb := below_alloc w2 (.cells #[.slice a0 xs.length c0] 22)
  replace HB := hide (HB.out.trans ((hb).mono HB.out.size))
  replace BE := hide (boxed_step BE.out (hb))
  replace BR := hide (boxed_step BR.out (hb))
  clear hb hls
  generalize w2.alloc (.cells #[.slice a0 xs.length c0] 22) = w3 at *
  by_cases g : 160 < xs.length
  · have hL : isLong [(a0, xs.length, c0)] = true := by simp [isLong]; omega
    rw [hL]
    clear hL
    have hc := BR.out.cell
    have hf := BR.out.frozen
    go_wp2
    exact ⟨_, res_bool rfl _ _ _ true rfl (BR.out.set _), rfl, HB.out.setCell (p := ⟨w.heap.size + 1, 0, none⟩) (by show w.heap.size ≤ w.heap.size + 1; omega) _⟩
  have hL : isLong [(a0, xs.length, c0)] = false := by simp [isLong]; omega
  rw [hL]
  clear hL
  by_cases g2 : 1500 < s.size ∧ s.size ≤ 65536
  · obtain ⟨g3, g4⟩ := g2
    have g5 : (s.size : Int) ≤ 65536 := by omega
    have g6 : (1500 : Int) < s.size := by omega
    have hc := BR.out.cell
    have hf := BR.out.frozen
    go_wp2
    exact ⟨_, res_bool rfl _ _ _ true rfl (BR.out.set _), rfl, HB.out.setCell (p := ⟨w.heap.size + 1, 0, none⟩) (by show w.heap.size ≤ w.heap.size + 1; omega) _⟩
  have GX : Hid (xs.length ≤ 160) := hide (by omega)
  clear g
  by_cases g3 : 1500 < s.size
  · have g4 : ¬ (s.size : Int) ≤ 65536 := by omega
    go_wp2_with fail
    refine (room_any _ xs _ (N0.out.below HB.out) (by have := GX.out; omega)).mono ?_
    rintro e w4 ⟨vg, rfl, hr, hb⟩
    replace HB := hide (HB.out.trans ((hb).mono HB.out.size))
    replace BE := hide (boxed_step BE.out (hb))
    replace BR := hide (boxed_step BR.out (hb))
    have NR := hide hr.nums
    clear hr hb
    go_wp2_with fail
    refine (text_any _ xs _ NR.out (by have := GX.out; omega)).mono ?_
    rintro e w5 ⟨rfl, hb⟩
    replace HB := hide (HB.out.trans ((hb).mono HB.out.size))
    replace BE := hide (boxed_step BE.out (hb))
    replace BR := hide (boxed_step BR.out (hb))
    replace NR := hide (NR.out.below (hb))
    clear hb NR
    go_upto_region 6 with fail
    have hb := below_alloc w5 (.cells #[.string (txt (val xs))] 9)
    replace HB := hide (HB.out.trans ((hb).mono HB.out.size))
    replace BE := hide (boxed_step BE.out (hb))
    replace BR := hide (boxed_step BR.out (hb))
    clear hb
    have BS := hide (Boxed.new w5 9 (.string (txt (val xs))))
    generalize w5.alloc (.cells #[.string (txt (val xs))] 9) = w6 at *
    generalize w5.heap.size = gs at *
    go_wp2_with fail
    refine (read_any s _ hs).mono ?_
    rintro e w7 ⟨v1, ys, a, b, rfl, hn, hrd, hb⟩
    replace HB := hide (HB.out.trans ((hb).mono HB.out.size))
    replace BE := hide (boxed_step BE.out (hb))
    replace BR := hide (boxed_step BR.out (hb))
    replace BS := hide (boxed_step BS.out (hb))
    have N1 := hide hn
    have RD1 := hide hrd
    clear hn hrd hb
    go_upto_region 7 with fail
    have hb := below_alloc w7 (.cells #[.int .i64 (a : Nat), .int .i64 (b : Nat)] 29)
    replace HB := hide (HB.out.trans ((hb).mono HB.out.size))
    replace BE := hide (boxed_step BE.out (hb))
    replace BR := hide (boxed_step BR.out (hb))
    replace BS := hide (boxed_step BS.out (hb))
    replace N1 := hide (N1.out.below (hb))
    clear hb
    have B1 := hide (Box2.new w7 29 (.int .i64 (a : Nat)) (.int .i64 (b : Nat)))
    generalize w7.alloc (.cells #[.int .i64 (a : Nat), .int .i64 (b : Nat)] 29) = w8 at *
    generalize w7.heap.size = g1 at *
    go_wp2_with fail
    refine (rread_any s _ hs).mono ?_
    rintro e w9 ⟨v2, zs, c, d, rfl, hn, hrd, hb⟩
    replace HB := hide (HB.out.trans ((hb).mono HB.out.size))
    replace BE := hide (boxed_step BE.out (hb))
    replace BR := hide (boxed_step BR.out (hb))
    replace BS := hide (boxed_step BS.out (hb))
    replace N1 := hide (N1.out.below (hb))
    replace B1 := hide (B1.out.step (hb))
    obtain ⟨rfl, rfl, rfl⟩ := RD1.out.same hrd
    have N2 := hide hn
    clear hn hrd hb RD1
    go_upto_region 8 with fail
    have hb := below_alloc w9 (.cells #[.int .i64 (a : Nat), .int .i64 (b : Nat)] 29)
    replace HB := hide (HB.out.trans ((hb).mono HB.out.size))
    replace BE := hide (boxed_step BE.out (hb))
    replace BR := hide (boxed_step BR.out (hb))
    replace BS := hide (boxed_step BS.out (hb))
    replace N1 := hide (N1.out.below (hb))
    replace B1 := hide (B1.out.step (hb))
    replace N2 := hide (N2.out.below (hb))
    clear hb
    have B2 := hide (Box2.new w9 29 (.int .i64 (a : Nat)) (.int .i64 (b : Nat)))
    generalize w9.alloc (.cells #[.int .i64 (a : Nat), .int .i64 (b : Nat)] 29) = w10 at *
    generalize w9.heap.size = g2 at *
    refine wp_calm (fun w' => Below w10.heap.size w10 w') (fun _ => true) 15 #[false, false, false, false, false, false, false, false, false, false, false, false, false, false, false] (by kernel_rfl) rfl rfl ?_
    have HF := hide ((Below.refl w10.heap.size w10).drew)
    generalize w10.drew = w10d at *
    refine Calm.take (i := 0) (v := ?_) (a' := ?_) (l' := #[true, false, false, false, false, false, false, false, false, false, false, false, false, false, false]) (d := some 43) rfl (by kernel_rfl) (by kernel_rfl) (by kernel_rfl) (by kernel_rfl) (fun _ _ _ h => h) HF.out rfl ?_ rfl rfl ?_ ?_
    rotate_left
    · intro w' hF; have f0 := (boxed_step BS.out hF).cell; have f1 := (B1.out.step hF).cell0; have f2 := (B1.out.step hF).cell1; have f3 := (B2.out.step hF).cell0; have f4 := (B2.out.step hF).cell1; clear hF; go_simp; try rfl
    rotate_left
    · simp only [Act.put]; exact rfl
    refine Calm.take (i := 1) (v := ?_) (a' := ?_) (l' := #[true, true, false, false, false, false, false, false, false, false, false, false, false, false, false]) (d := some 44) rfl (by kernel_rfl) (by kernel_rfl) (by kernel_rfl) (by kernel_rfl) (fun _ _ _ h => h) HF.out rfl ?_ rfl rfl ?_ ?_
    rotate_left
    · intro w' hF; clear hF; go_simp; try rfl
    rotate_left
    · simp only [Act.put]; exact rfl
    refine Calm.one (i := 2) (l' := #[true, true, true, false, false, false, false, false, false, false, false, false, false, false, false]) (by kernel_rfl) rfl rfl rfl fun K hK => ?_
    go_simp
    refine (rtext_any _ xs _ ((N0.out.below HB.out).below HF.out) (by have := GX.out; omega)).mono ?_
    rintro e z1 ⟨rfl, hb⟩
    have HF' := hide (HF.out.trans ((hb).mono HF.out.size))
    refine hK _ _ (fun _ => HF'.out) ?_
    clear hK K HF hb
    have HF := hide HF'.out
    clear HF'
    refine Calm.take (i := 3) (v := ?_) (a' := ?_) (l' := #[true, true, true, true, false, false, false, false, false, false, false, false, false, false, false]) (d := some 46) rfl (by kernel_rfl) (by kernel_rfl) (by kernel_rfl) (by kernel_rfl) (fun _ _ _ h => h) HF.out rfl ?_ rfl rfl ?_ ?_
    rotate_left
    · intro w' hF; clear hF; go_simp; try rfl
    rotate_left
    · simp only [Act.put]; exact rfl
    refine Calm.take (i := 4) (v := ?_) (a' := ?_) (l' := #[true, true, true, true, true, false, false, false, false, false, false, false, false, false, false]) (d := some 47) rfl (by kernel_rfl) (by kernel_rfl) (by kernel_rfl) (by kernel_rfl) (fun _ _ _ h => h) HF.out rfl ?_ rfl rfl ?_ ?_
    rotate_left
    · intro w' hF; clear hF; go_simp; try rfl
    rotate_left
    · simp only [Act.put]; exact rfl
    refine Calm.take (i := 5) (v := ?_) (a' := ?_) (l' := #[true, true, true, true, true, true, false, false, false, false, false, false, false, false, false]) (d := some 48) rfl (by kernel_rfl) (by kernel_rfl) (by kernel_rfl) (by kernel_rfl) (fun _ _ _ h => h) HF.out (by kernel_rfl) ?_ rfl rfl ?_ ?_
    rotate_left
    · intro w' hF; clear hF; go_simp; try rfl
    rotate_left
    · simp only [Act.put]; exact rfl
    refine Calm.take (i := 6) (v := ?_) (a' := ?_) (l' := #[true, true, true, true, true, true, true, false, false, false, false, false, false, false, false]) (d := some 49) rfl (by kernel_rfl) (by kernel_rfl) (by kernel_rfl) (by kernel_rfl) (fun _ _ _ h => h) HF.out (by kernel_rfl) ?_ rfl rfl ?_ ?_
    rotate_left
    · intro w' hF; clear hF; go_simp; try rfl
    rotate_left
    · simp only [Act.put]; exact rfl
    refine Calm.one (i := 7) (l' := #[true, true, true, true, true, true, true, true, false, false, false, false, false, false, false]) (by kernel_rfl) rfl (by kernel_rfl) rfl fun K hK => ?_
    go_simp
    refine (equal_yes _ _ ys _ (N1.out.below HF.out) (N2.out.below HF.out)).mono ?_
    rintro e z2 ⟨rfl, hb⟩
    have HF' := hide (HF.out.trans ((hb).mono HF.out.size))
    refine hK _ _ (fun _ => HF'.out) ?_
    clear hK K HF hb
    have HF := hide HF'.out
    clear HF'
    refine Calm.take (i := 8) (v := ?_) (a' := ?_) (l' := #[true, true, true, true, true, true, true, true, true, false, false, false, false, false, false]) (d := some 51) rfl (by kernel_rfl) (by kernel_rfl) (by kernel_rfl) (by kernel_rfl) (fun _ _ _ h => h) HF.out (by kernel_rfl) ?_ rfl rfl ?_ ?_
    rotate_left
    · intro w' hF; clear hF; go_simp; try rfl
    rotate_left
    · simp only [Act.put]; exact rfl
    refine Calm.take (i := 9) (v := ?_) (a' := ?_) (l' := #[true, true, true, true, true, true, true, true, true, true, false, false, false, false, false]) (d := some 52) rfl (by kernel_rfl) (by kernel_rfl) (by kernel_rfl) (by kernel_rfl) (fun _ _ _ h => h) HF.out rfl ?_ rfl rfl ?_ ?_
    rotate_left
    · intro w' hF; clear hF; go_simp; try rfl
    rotate_left
    · simp only [Act.put]; exact rfl
    refine Calm.take (i := 10) (v := ?_) (a' := ?_) (l' := #[true, true, true, true, true, true, true, true, true, true, true, false, false, false, false]) (d := some 53) rfl (by kernel_rfl) (by kernel_rfl) (by kernel_rfl) (by kernel_rfl) (fun _ _ _ h => h) HF.out rfl ?_ rfl rfl ?_ ?_
    rotate_left
    · intro w' hF; clear hF; go_simp; try rfl
    rotate_left
    · simp only [Act.put]; exact rfl
    refine Calm.take (i := 11) (v := ?_) (a' := ?_) (l' := #[true, true, true, true, true, true, true, true, true, true, true, true, false, false, false]) (d := some 54) rfl (by kernel_rfl) (by kernel_rfl) (by kernel_rfl) (by kernel_rfl) (fun _ _ _ h => h) HF.out (by kernel_rfl) ?_ rfl rfl ?_ ?_
    rotate_left
    · intro w' hF; have f0 := (boxed_step BS.out hF).cell; have f1 := (B1.out.step hF).cell0; have f2 := (B1.out.step hF).cell1; have f3 := (B2.out.step hF).cell0; have f4 := (B2.out.step hF).cell1; clear hF; go_simp; try rfl
    rotate_left
    · simp only [Act.put]; exact rfl
    refine Calm.take (i := 12) (v := ?_) (a' := ?_) (l' := #[true, true, true, true, true, true, true, true, true, true, true, true, true, false, false]) (d := some 55) rfl (by kernel_rfl) (by kernel_rfl) (by kernel_rfl) (by kernel_rfl) (fun _ _ _ h => h) HF.out (by kernel_rfl) ?_ rfl rfl ?_ ?_
    rotate_left
    · intro w' hF; have f0 := (boxed_step BS.out hF).cell; have f1 := (B1.out.step hF).cell0; have f2 := (B1.out.step hF).cell1; have f3 := (B2.out.step hF).cell0; have f4 := (B2.out.step hF).cell1; clear hF; go_simp; try rfl
    rotate_left
    · simp only [Act.put]; exact rfl
    refine Calm.take (i := 13) (v := ?_) (a' := ?_) (l' := #[true, true, true, true, true, true, true, true, true, true, true, true, true, true, false]) (d := some 56) rfl (by kernel_rfl) (by kernel_rfl) (by kernel_rfl) (by kernel_rfl) (fun _ _ _ h => h) HF.out (by kernel_rfl) ?_ rfl rfl ?_ ?_
    rotate_left
    · intro w' hF; clear hF; go_simp; try rfl
    rotate_left
    · simp only [Act.put]; exact rfl
    refine Calm.take (i := 14) (v := ?_) (a' := ?_) (l' := #[true, true, true, true, true, true, true, true, true, true, true, true, true, true, true]) (d := some 57) rfl (by kernel_rfl) (by kernel_rfl) (by kernel_rfl) (by kernel_rfl) (fun _ _ _ h => h) HF.out rfl ?_ rfl rfl ?_ ?_
    rotate_left
    · intro w' hF; clear hF; go_simp; try rfl
    rotate_left
    · simp only [Act.put]; exact rfl
    refine Calm.done (by kernel_rfl) ?_
    replace HB := hide (HB.out.trans ((HF.out).mono HB.out.size))
    replace BE := hide (boxed_step BE.out (HF.out))
    replace BR := hide (boxed_step BR.out (HF.out))
    replace BS := hide (boxed_step BS.out (HF.out))
    replace N1 := hide (N1.out.below (HF.out))
    replace B1 := hide (B1.out.step (HF.out))
    replace N2 := hide (N2.out.below (HF.out))
    replace B2 := hide (B2.out.step (HF.out))
    clear HF N1 N2 B1 B2
    simp only [List.setIfInBounds_toArray, List.set_cons_succ, List.set_cons_zero]
    go_wp2_with fail
    refine (room_any _ xs _ (N0.out.below HB.out) (by have := GX.out; omega)).mono ?_
    rintro e w11 ⟨vh, rfl, hr, hb⟩
    replace HB := hide (HB.out.trans ((hb).mono HB.out.size))
    replace BE := hide (boxed_step BE.out (hb))
    replace BR := hide (boxed_step BR.out (hb))
    replace BS := hide (boxed_step BS.out (hb))
    have NR := hide hr.nums
    clear hr hb
    go_wp2_with fail
    refine (digits_any _ xs _ NR.out (by have := GX.out; omega)).mono ?_
    rintro e w12 ⟨bx, gv, rfl, hx1, hx2, hcx, hO, hb⟩
    replace HB := hide (HB.out.trans ((hb).mono HB.out.size))
    replace BE := hide (boxed_step BE.out (hb))
    replace BR := hide (boxed_step BR.out (hb))
    replace BS := hide (boxed_step BS.out (hb))
    replace NR := hide (NR.out.below (hb))
    have SZ := hide hb.size
    clear hb NR
    have X1 := hide hx1
    have X2 := hide hx2
    have CX := hide hcx
    have OW := hide hO
    clear hx1 hx2 hcx hO
    generalize w11.heap.size = lo at *
    go_wp2_with fail
    have HW0 := hide (below_alloc w12 (.cells #[.int .i64 0] 3))
    have BI := hide (Boxed.new w12 3 (.int .i64 0))
    have SW : Hid ((w12.alloc (.cells #[.int .i64 0] 3)).heap.size = w12.heap.size + 1) := hide (World.size_alloc _ _)
    have HB2 := hide (HB.out.trans ((below_alloc w12 (.cells #[.int .i64 0] 3)).mono HB.out.size))
    have BE2 := hide (BE.out.alloc (.cells #[.int .i64 0] 3))
    have BR2 := hide (BR.out.alloc (.cells #[.int .i64 0] 3))
    have BS2 := hide (BS.out.alloc (.cells #[.int .i64 0] 3))
    have L1 := hide BE.out.lt
    have L2 := hide BR.out.lt
    have L3 := hide BS.out.lt
    have L4 := hide HB.out.size
    generalize w12.alloc (.cells #[.int .i64 0] 3) = W1 at *
    have TS := hide (told_size (val xs))
    have TB := hide (told_bt (val xs))
    generalize txt (val xs) = T at *
    have NB : Hid ((toldD (grp (val xs))).length ≤ 32000000001) := hide (told_few N0.out.ok GX.out)
    refine (wpIn_wide (n := 3)).1 ?_
    refine wpIn_rangeFunc_ownG rfl (by omega) (gf := 25) (lb := #[.pointer (some ⟨bx, 0, none⟩)]) rfl trivial (enters_of Try.func25 (by kernel_rfl) rfl)
      (digits_stops 2 (by omega) bx lo w12.heap.size lo gv (grp (val xs)) (grp_lt _) (grp_ne _) w12 OW.out (Nat.le_refl _) rfl X1.out X2.out CX.out) Keeps.trans
      (fun W l o o' hl _ _ _ k _ h2 => by rw [World.putObj_heap_other (by have := SW.out; omega)]) HW0.out (fun _ => rfl)
      (fun pre W => Boxed W w12.heap.size 3 (.int .i64 (pre.length : Nat)) ∧ SameBut w12.heap.size W1 W)
      (fun c pre W => c = .exit 0 ∧ (∃ n : Int, Boxed W w12.heap.size 3 (.int .i64 n)) ∧ SameBut w12.heap.size W1 W)
      (OwnFrom.and (Go.Own.from (boxed_own _ _ (fun pre : List Dg => .int .i64 (pre.length : Nat))) _) (sameBut_from _ _))
      (fun c => OwnFrom.and (ownFrom_pure _ _) (OwnFrom.and (someI_from _ _) (sameBut_from _ _)))
      ⟨BI.out, SameBut.refl _ _⟩ ?a1274 ?assign1274 ?body1274 ?done1274 ?stop1274
    case assign1274 =>
      intro l x W K hK
      simp only [List.zip_toArray, List.zip_cons_cons, List.zip_nil_right, List.foldl_toArray', List.size_toArray, List.length_cons, List.length_nil, List.foldl_cons, List.foldl_nil, List.setIfInBounds_toArray, List.set_cons_succ, List.set_cons_zero]
      gi_wp2
      exact hK
    case body1274 =>
      rintro l pre x W ⟨hi, hS⟩ hlt
      have hcI := hi.cell
      have hfI := hi.frozen
      have hcE := (hS.boxed BE2.out (by have := L1.out; omega)).cell
      have hlB := NB.out
      have hple : (pre ++ [x]).length = pre.length + 1 := by simp
      have HS := hide hS
      have HI := hide hi
      clear hS hi
      by_cases hq : ((pre.length : Nat) : Int) = early
      · subst hq
        gi_wp2
        exact ⟨(KeepsOthers.refl _).from _, rfl, ⟨_, HI.out⟩, HS.out⟩
      · have hq' : (((pre.length : Nat) : Int) == early) = false := by simp; exact hq
        gi_wp2
        exact ⟨(KeepsOthers.setCell _ _ _).from _, ((SameBut.refl _ W).set _).keeps (Nat.le_refl _) (by have := HS.out.base.size; have := SW.out; omega), by rw [hple]; exact HI.out.set _, HS.out.set _⟩
    case done1274 =>
      rintro D1 ys W hD rfl ⟨hi, hS⟩ hK
      have hcI := hi.cell
      have hfI := hi.frozen
      have HS := hide (hS.set (.int .i64 0))
      have HI := hide (hi.set (.int .i64 0))
      have HK := hide ((Below.heap_setCell W ⟨w12.heap.size, 0, none⟩ (.int .i64 0) D1 (by have := SW.out; show D1 ≠ w12.heap.size; omega)).trans hK)
      have HD := hide hD
      clear hi hS hK hD
      go_wp2_with fail
      clear hcI hfI
      generalize W.setCell ⟨w12.heap.size, 0, none⟩ (.int .i64 0) = W2 at *
      have SW2 : Hid (w12.heap.size + 1 ≤ W2.heap.size) := hide (by have := HS.out.base.size; have := SW.out; omega)
      have HW2 := hide (HS.out.below HW0.out (Nat.le_refl _) (by have := SW.out; omega))
      have BR3 := hide (HS.out.boxed BR2.out (by have := L2.out; omega))
      have BS3 := hide (HS.out.boxed BS2.out (by have := L3.out; omega))
      have HB3 := hide (HS.out.below HB2.out (by have := L4.out; have := L2.out; omega) (by have := L4.out; have := SW.out; have := L2.out; omega))
      clear HS
      refine (wpIn_wide (n := 3)).1 ?_
      refine wpIn_rangeFunc_ownG rfl (by omega) (gf := 25) (lb := #[.pointer (some ⟨bx, 0, none⟩)]) rfl trivial (enters_of Try.func25 (by kernel_rfl) rfl)
        (digits_stops 2 (by omega) bx lo w12.heap.size lo gv (grp (val xs)) (grp_lt _) (grp_ne _) w12 OW.out (Nat.le_refl _) rfl X1.out X2.out CX.out) Keeps.trans
        (fun W l o o' hl _ _ _ k _ h2 => by rw [World.putObj_heap_other (by have := SW2.out; omega)]) HW2.out (fun _ => rfl)
        (fun pre W => Boxed W w12.heap.size 3 (.int .i64 (pre.length : Nat)) ∧ SameBut w12.heap.size W2 W)
        (fun c pre _ => c = .ret ∧ ∃ (pre0 : List Dg) (x : Dg) (h : pre0.length < (toldD (grp (val xs))).length), pre = pre0 ++ [x] ∧ x.1 ≠ ((toldD (grp (val xs)))[pre0.length]).1)
        (OwnFrom.and (Go.Own.from (boxed_own _ _ (fun pre : List Dg => .int .i64 (pre.length : Nat))) _) (sameBut_from _ _))
        (fun c => ownFrom_pure _ _)
        ⟨HI.out, SameBut.refl _ _⟩ ?ad323 ?assignd323 ?bodyd323 ?doned323 ?stopd323
      case assignd323 =>
        intro l x W K hK
        simp only [List.zip_toArray, List.zip_cons_cons, List.zip_nil_right, List.foldl_toArray', List.size_toArray, List.length_cons, List.length_nil, List.foldl_cons, List.foldl_nil, List.setIfInBounds_toArray, List.set_cons_succ, List.set_cons_zero]
        gi_wp2
        exact hK
      case bodyd323 =>
        rintro l pre x W' ⟨hi, hS⟩ hlt
        have hcI := hi.cell
        have hfI := hi.frozen
        have hcS := (hS.boxed BS3.out (by have := L3.out; omega)).cell
        have hcR := (hS.boxed BR3.out (by have := L2.out; omega)).cell
        have hfR := (hS.boxed BR3.out (by have := L2.out; omega)).frozen
        have hlB := NB.out
        have hple : (pre ++ [x]).length = pre.length + 1 := by simp
        have HS := hide hS
        have HI := hide hi
        clear hS hi
        have hts := TS.out
        have hlt2 : pre.length < T.size := by omega
        have hg := bt_get T pre.length hlt2
        have hb := TB.out pre.length hlt
        have hx9 := x.2
        have hd9 := ((toldD (grp (val xs)))[pre.length]).2
        have HLT := hide hlt
        generalize hd : ((toldD (grp (val xs)))[pre.length]).1 = d at *
        have HD9 := hide hd
        clear hd hts
        generalize hc : bt T pre.length = c at *
        have c1 : 48 ≤ c := by omega
        have c2 : c ≤ 57 := by omega
        have HC := hide hb
        clear hc hb
        by_cases hxd : x.1 = d
        · have hcx : (((x.1 : Nat) : Int) != ((c : Nat) : Int) - 48) = false := by have := HC.out; simp; omega
          clear hxd
          gi_wp2
          exact ⟨(KeepsOthers.setCell _ _ _).from _, ((SameBut.refl _ W').set _).keeps (Nat.le_refl _) (by have := HS.out.base.size; have := SW2.out; omega), by rw [hple]; exact HI.out.set _, HS.out.set _⟩
        · have hcx : (((x.1 : Nat) : Int) != ((c : Nat) : Int) - 48) = true := by have := HC.out; simp; omega
          have HX := hide hxd
          clear hxd
          gi_wp2
          exact ⟨(KeepsOthers.setCell _ _ _).from _, rfl, pre, x, HLT.out, rfl, fun e => HX.out (e.trans HD9.out)⟩
      case doned323 =>
        rintro D2 ys W' hD2 rfl ⟨hi, hS⟩ hK2
        rw [← TS.out] at hi
        have hcI := hi.cell
        have hcS := (hS.boxed BS3.out (by have := L3.out; omega)).cell
        have BR4 := hide (hS.boxed BR3.out (by have := L2.out; omega))
        have hcR := BR4.out.cell
        have hfR := BR4.out.frozen
        have LD : Hid (D1 < W2.heap.size) := hide (Array.getElem?_eq_some_iff.1 HK.out).1
        have K1 := hide ((hS.block D1 LD.out (by have := HD.out; have := SW.out; omega)).trans HK.out)
        have K2 := hide hK2
        have HB4 := hide (hS.below HB3.out (by have := L4.out; have := L2.out; omega) (by have := SW2.out; have := L2.out; omega))
        have D2' := hide hD2
        clear hi hS hK2 hD2
        go_wp2
        exact two_marks rfl _ _ w (w.heap.size + 1) D1 D2 true rfl ((Below.heap_setCell _ _ _ _ (by show D1 ≠ w.heap.size + 1; have := HD.out; have := SW.out; have := L2.out; omega)).trans K1.out) ((Below.heap_setCell _ _ _ _ (by show D2 ≠ w.heap.size + 1; have := D2'.out; have := SW2.out; have := L2.out; omega)).trans K2.out) (by have := LD.out; have := D2'.out; omega) (BR4.out.set _) (HB4.out.setCell (p := ⟨w.heap.size + 1, 0, none⟩) (by show w.heap.size ≤ w.heap.size + 1; omega) _) (by have := HD.out; have := SW.out; have := L2.out; omega) (by have := D2'.out; have := SW2.out; have := L2.out; omega)
      case stopd323 =>
        rintro D2 c pre W' hD2 hSp ⟨_, pre0, x, h, rfl, hne⟩ _
        obtain ⟨t, ht⟩ := hSp
        exact absurd (by have := congrArg (fun l => l[pre0.length]?) ht; simp [h] at this; exact congrArg Subtype.val this) hne
    case stop1274 =>
      rintro D1 c pre W hD hSp ⟨rfl, ⟨n, hi⟩, hS⟩ hK
      clear hSp
      gi_wp2
      have hcI := hi.cell
      have hfI := hi.frozen
      have HS := hide (hS.set (.int .i64 0))
      have HI := hide (hi.set (.int .i64 0))
      have HK := hide ((Below.heap_setCell W ⟨w12.heap.size, 0, none⟩ (.int .i64 0) D1 (by have := SW.out; show D1 ≠ w12.heap.size; omega)).trans hK)
      have HD := hide hD
      clear hi hS hK hD
      go_wp2_with fail
      clear hcI hfI
      generalize W.setCell ⟨w12.heap.size, 0, none⟩ (.int .i64 0) = W2 at *
      have SW2 : Hid (w12.heap.size + 1 ≤ W2.heap.size) := hide (by have := HS.out.base.size; have := SW.out; omega)
      have HW2 := hide (HS.out.below HW0.out (Nat.le_refl _) (by have := SW.out; omega))
      have BR3 := hide (HS.out.boxed BR2.out (by have := L2.out; omega))
      have BS3 := hide (HS.out.boxed BS2.out (by have := L3.out; omega))
      have HB3 := hide (HS.out.below HB2.out (by have := L4.out; have := L2.out; omega) (by have := L4.out; have := SW.out; have := L2.out; omega))
      clear HS
      refine (wpIn_wide (n := 3)).1 ?_
      refine wpIn_rangeFunc_ownG rfl (by omega) (gf := 25) (lb := #[.pointer (some ⟨bx, 0, none⟩)]) rfl trivial (enters_of Try.func25 (by kernel_rfl) rfl)
        (digits_stops 2 (by omega) bx lo w12.heap.size lo gv (grp (val xs)) (grp_lt _) (grp_ne _) w12 OW.out (Nat.le_refl _) rfl X1.out X2.out CX.out) Keeps.trans
        (fun W l o o' hl _ _ _ k _ h2 => by rw [World.putObj_heap_other (by have := SW2.out; omega)]) HW2.out (fun _ => rfl)
        (fun pre W => Boxed W w12.heap.size 3 (.int .i64 (pre.length : Nat)) ∧ SameBut w12.heap.size W2 W)
        (fun c pre _ => c = .ret ∧ ∃ (pre0 : List Dg) (x : Dg) (h : pre0.length < (toldD (grp (val xs))).length), pre = pre0 ++ [x] ∧ x.1 ≠ ((toldD (grp (val xs)))[pre0.length]).1)
        (OwnFrom.and (Go.Own.from (boxed_own _ _ (fun pre : List Dg => .int .i64 (pre.length : Nat))) _) (sameBut_from _ _))
        (fun c => ownFrom_pure _ _)
        ⟨HI.out, SameBut.refl _ _⟩ ?as414 ?assigns414 ?bodys414 ?dones414 ?stops414
      case assigns414 =>
        intro l x W K hK
        simp only [List.zip_toArray, List.zip_cons_cons, List.zip_nil_right, List.foldl_toArray', List.size_toArray, List.length_cons, List.length_nil, List.foldl_cons, List.foldl_nil, List.setIfInBounds_toArray, List.set_cons_succ, List.set_cons_zero]
        gi_wp2
        exact hK
      case bodys414 =>
        rintro l pre x W' ⟨hi, hS⟩ hlt
        have hcI := hi.cell
        have hfI := hi.frozen
        have hcS := (hS.boxed BS3.out (by have := L3.out; omega)).cell
        have hcR := (hS.boxed BR3.out (by have := L2.out; omega)).cell
        have hfR := (hS.boxed BR3.out (by have := L2.out; omega)).frozen
        have hlB := NB.out
        have hple : (pre ++ [x]).length = pre.length + 1 := by simp
        have HS := hide hS
        have HI := hide hi
        clear hS hi
        have hts := TS.out
        have hlt2 : pre.length < T.size := by omega
        have hg := bt_get T pre.length hlt2
        have hb := TB.out pre.length hlt
        have hx9 := x.2
        have hd9 := ((toldD (grp (val xs)))[pre.length]).2
        have HLT := hide hlt
        generalize hd : ((toldD (grp (val xs)))[pre.length]).1 = d at *
        have HD9 := hide hd
        clear hd hts
        generalize hc : bt T pre.length = c at *
        have c1 : 48 ≤ c := by omega
        have c2 : c ≤ 57 := by omega
        have HC := hide hb
        clear hc hb
        by_cases hxd : x.1 = d
        · have hcx : (((x.1 : Nat) : Int) != ((c : Nat) : Int) - 48) = false := by have := HC.out; simp; omega
          clear hxd
          gi_wp2
          exact ⟨(KeepsOthers.setCell _ _ _).from _, ((SameBut.refl _ W').set _).keeps (Nat.le_refl _) (by have := HS.out.base.size; have := SW2.out; omega), by rw [hple]; exact HI.out.set _, HS.out.set _⟩
        · have hcx : (((x.1 : Nat) : Int) != ((c : Nat) : Int) - 48) = true := by have := HC.out; simp; omega
          have HX := hide hxd
          clear hxd
          gi_wp2
          exact ⟨(KeepsOthers.setCell _ _ _).from _, rfl, pre, x, HLT.out, rfl, fun e => HX.out (e.trans HD9.out)⟩
      case dones414 =>
        rintro D2 ys W' hD2 rfl ⟨hi, hS⟩ hK2
        rw [← TS.out] at hi
        have hcI := hi.cell
        have hcS := (hS.boxed BS3.out (by have := L3.out; omega)).cell
        have BR4 := hide (hS.boxed BR3.out (by have := L2.out; omega))
        have hcR := BR4.out.cell
        have hfR := BR4.out.frozen
        have LD : Hid (D1 < W2.heap.size) := hide (Array.getElem?_eq_some_iff.1 HK.out).1
        have K1 := hide ((hS.block D1 LD.out (by have := HD.out; have := SW.out; omega)).trans HK.out)
        have K2 := hide hK2
        have HB4 := hide (hS.below HB3.out (by have := L4.out; have := L2.out; omega) (by have := SW2.out; have := L2.out; omega))
        have D2' := hide hD2
        clear hi hS hK2 hD2
        go_wp2
        exact two_marks rfl _ _ w (w.heap.size + 1) D1 D2 true rfl ((Below.heap_setCell _ _ _ _ (by show D1 ≠ w.heap.size + 1; have := HD.out; have := SW.out; have := L2.out; omega)).trans K1.out) ((Below.heap_setCell _ _ _ _ (by show D2 ≠ w.heap.size + 1; have := D2'.out; have := SW2.out; have := L2.out; omega)).trans K2.out) (by have := LD.out; have := D2'.out; omega) (BR4.out.set _) (HB4.out.setCell (p := ⟨w.heap.size + 1, 0, none⟩) (by show w.heap.size ≤ w.heap.size + 1; omega) _) (by have := HD.out; have := SW.out; have := L2.out; omega) (by have := D2'.out; have := SW2.out; have := L2.out; omega)
      case stops414 =>
        rintro D2 c pre W' hD2 hSp ⟨_, pre0, x, h, rfl, hne⟩ _
        obtain ⟨t, ht⟩ := hSp
        exact absurd (by have := congrArg (fun l => l[pre0.length]?) ht; simp [h] at this; exact congrArg Subtype.val this) hne
  clear g2
  go_wp2_with fail
  refine (room_any _ xs _ (N0.out.below HB.out) (by have := GX.out; omega)).mono ?_
  rintro e w4 ⟨vg, rfl, hr, hb⟩
  replace HB := hide (HB.out.trans ((hb).mono HB.out.size))
  replace BE := hide (boxed_step BE.out (hb))
  replace BR := hide (boxed_step BR.out (hb))
  have NR := hide hr.nums
  clear hr hb
  go_wp2_with fail
  refine (text_any _ xs _ NR.out (by have := GX.out; omega)).mono ?_
  rintro e w5 ⟨rfl, hb⟩
  replace HB := hide (HB.out.trans ((hb).mono HB.out.size))
  replace BE := hide (boxed_step BE.out (hb))
  replace BR := hide (boxed_step BR.out (hb))
  replace NR := hide (NR.out.below (hb))
  clear hb NR
  go_upto_region 6 with fail
  have hb := below_alloc w5 (.cells #[.string (txt (val xs))] 9)
  replace HB := hide (HB.out.trans ((hb).mono HB.out.size))
  replace BE := hide (boxed_step BE.out (hb))
  replace BR := hide (boxed_step BR.out (hb))
  clear hb
  have BS := hide (Boxed.new w5 9 (.string (txt (val xs))))
  generalize w5.alloc (.cells #[.string (txt (val xs))] 9) = w6 at *
  generalize w5.heap.size = gs at *
  go_wp2_with fail
  refine (read_any s _ hs).mono ?_
  rintro e w7 ⟨v1, ys, a, b, rfl, hn, hrd, hb⟩
  replace HB := hide (HB.out.trans ((hb).mono HB.out.size))
  replace BE := hide (boxed_step BE.out (hb))
  replace BR := hide (boxed_step BR.out (hb))
  replace BS := hide (boxed_step BS.out (hb))
  have N1 := hide hn
  have RD1 := hide hrd
  clear hn hrd hb
  go_upto_region 7 with fail
  have hb := below_alloc w7 (.cells #[.int .i64 (a : Nat), .int .i64 (b : Nat)] 29)
  replace HB := hide (HB.out.trans ((hb).mono HB.out.size))
  replace BE := hide (boxed_step BE.out (hb))
  replace BR := hide (boxed_step BR.out (hb))
  replace BS := hide (boxed_step BS.out (hb))
  replace N1 := hide (N1.out.below (hb))
  clear hb
  have B1 := hide (Box2.new w7 29 (.int .i64 (a : Nat)) (.int .i64 (b : Nat)))
  generalize w7.alloc (.cells #[.int .i64 (a : Nat), .int .i64 (b : Nat)] 29) = w8 at *
  generalize w7.heap.size = g1 at *
  go_wp2_with fail
  refine (rread_any s _ hs).mono ?_
  rintro e w9 ⟨v2, zs, c, d, rfl, hn, hrd, hb⟩
  replace HB := hide (HB.out.trans ((hb).mono HB.out.size))
  replace BE := hide (boxed_step BE.out (hb))
  replace BR := hide (boxed_step BR.out (hb))
  replace BS := hide (boxed_step BS.out (hb))
  replace N1 := hide (N1.out.below (hb))
  replace B1 := hide (B1.out.step (hb))
  obtain ⟨rfl, rfl, rfl⟩ := RD1.out.same hrd
  have N2 := hide hn
  clear hn hrd hb RD1
  go_upto_region 8 with fail
  have hb := below_alloc w9 (.cells #[.int .i64 (a : Nat), .int .i64 (b : Nat)] 29)
  replace HB := hide (HB.out.trans ((hb).mono HB.out.size))
  replace BE := hide (boxed_step BE.out (hb))
  replace BR := hide (boxed_step BR.out (hb))
  replace BS := hide (boxed_step BS.out (hb))
  replace N1 := hide (N1.out.below (hb))
  replace B1 := hide (B1.out.step (hb))
  replace N2 := hide (N2.out.below (hb))
  clear hb
  have B2 := hide (Box2.new w9 29 (.int .i64 (a : Nat)) (.int .i64 (b : Nat)))
  generalize w9.alloc (.cells #[.int .i64 (a : Nat), .int .i64 (b : Nat)] 29) = w10 at *
  generalize w9.heap.size = g2 at *
  refine wp_calm (fun w' => Below w10.heap.size w10 w') (fun _ => true) 15 #[false, false, false, false, false, false, false, false, false, false, false, false, false, false, false] (by kernel_rfl) rfl rfl ?_
  have HF := hide ((Below.refl w10.heap.size w10).drew)
  generalize w10.drew = w10d at *
  refine Calm.take (i := 0) (v := ?_) (a' := ?_) (l' := #[true, false, false, false, false, false, false, false, false, false, false, false, false, false, false]) (d := some 43) rfl (by kernel_rfl) (by kernel_rfl) (by kernel_rfl) (by kernel_rfl) (fun _ _ _ h => h) HF.out rfl ?_ rfl rfl ?_ ?_
  rotate_left
  · intro w' hF; have f0 := (boxed_step BS.out hF).cell; have f1 := (B1.out.step hF).cell0; have f2 := (B1.out.step hF).cell1; have f3 := (B2.out.step hF).cell0; have f4 := (B2.out.step hF).cell1; clear hF; go_simp; try rfl
  rotate_left
  · simp only [Act.put]; exact rfl
  refine Calm.take (i := 1) (v := ?_) (a' := ?_) (l' := #[true, true, false, false, false, false, false, false, false, false, false, false, false, false, false]) (d := some 44) rfl (by kernel_rfl) (by kernel_rfl) (by kernel_rfl) (by kernel_rfl) (fun _ _ _ h => h) HF.out rfl ?_ rfl rfl ?_ ?_
  rotate_left
  · intro w' hF; clear hF; go_simp; try rfl
  rotate_left
  · simp only [Act.put]; exact rfl
  refine Calm.one (i := 2) (l' := #[true, true, true, false, false, false, false, false, false, false, false, false, false, false, false]) (by kernel_rfl) rfl rfl rfl fun K hK => ?_
  go_simp
  refine (rtext_any _ xs _ ((N0.out.below HB.out).below HF.out) (by have := GX.out; omega)).mono ?_
  rintro e z1 ⟨rfl, hb⟩
  have HF' := hide (HF.out.trans ((hb).mono HF.out.size))
  refine hK _ _ (fun _ => HF'.out) ?_
  clear hK K HF hb
  have HF := hide HF'.out
  clear HF'
  refine Calm.take (i := 3) (v := ?_) (a' := ?_) (l' := #[true, true, true, true, false, false, false, false, false, false, false, false, false, false, false]) (d := some 46) rfl (by kernel_rfl) (by kernel_rfl) (by kernel_rfl) (by kernel_rfl) (fun _ _ _ h => h) HF.out rfl ?_ rfl rfl ?_ ?_
  rotate_left
  · intro w' hF; clear hF; go_simp; try rfl
  rotate_left
  · simp only [Act.put]; exact rfl
  refine Calm.take (i := 4) (v := ?_) (a' := ?_) (l' := #[true, true, true, true, true, false, false, false, false, false, false, false, false, false, false]) (d := some 47) rfl (by kernel_rfl) (by kernel_rfl) (by kernel_rfl) (by kernel_rfl) (fun _ _ _ h => h) HF.out rfl ?_ rfl rfl ?_ ?_
  rotate_left
  · intro w' hF; clear hF; go_simp; try rfl
  rotate_left
  · simp only [Act.put]; exact rfl
  refine Calm.take (i := 5) (v := ?_) (a' := ?_) (l' := #[true, true, true, true, true, true, false, false, false, false, false, false, false, false, false]) (d := some 48) rfl (by kernel_rfl) (by kernel_rfl) (by kernel_rfl) (by kernel_rfl) (fun _ _ _ h => h) HF.out (by kernel_rfl) ?_ rfl rfl ?_ ?_
  rotate_left
  · intro w' hF; clear hF; go_simp; try rfl
  rotate_left
  · simp only [Act.put]; exact rfl
  refine Calm.take (i := 6) (v := ?_) (a' := ?_) (l' := #[true, true, true, true, true, true, true, false, false, false, false, false, false, false, false]) (d := some 49) rfl (by kernel_rfl) (by kernel_rfl) (by kernel_rfl) (by kernel_rfl) (fun _ _ _ h => h) HF.out (by kernel_rfl) ?_ rfl rfl ?_ ?_
  rotate_left
  · intro w' hF; clear hF; go_simp; try rfl
  rotate_left
  · simp only [Act.put]; exact rfl
  refine Calm.one (i := 7) (l' := #[true, true, true, true, true, true, true, true, false, false, false, false, false, false, false]) (by kernel_rfl) rfl (by kernel_rfl) rfl fun K hK => ?_
  go_simp
  refine (equal_yes _ _ ys _ (N1.out.below HF.out) (N2.out.below HF.out)).mono ?_
  rintro e z2 ⟨rfl, hb⟩
  have HF' := hide (HF.out.trans ((hb).mono HF.out.size))
  refine hK _ _ (fun _ => HF'.out) ?_
  clear hK K HF hb
  have HF := hide HF'.out
  clear HF'
  refine Calm.take (i := 8) (v := ?_) (a' := ?_) (l' := #[true, true, true, true, true, true, true, true, true, false, false, false, false, false, false]) (d := some 51) rfl (by kernel_rfl) (by kernel_rfl) (by kernel_rfl) (by kernel_rfl) (fun _ _ _ h => h) HF.out (by kernel_rfl) ?_ rfl rfl ?_ ?_
  rotate_left
  · intro w' hF; clear hF; go_simp; try rfl
  rotate_left
  · simp only [Act.put]; exact rfl
  refine Calm.take (i := 9) (v := ?_) (a' := ?_) (l' := #[true, true, true, true, true, true, true, true, true, true, false, false, false, false, false]) (d := some 52) rfl (by kernel_rfl) (by kernel_rfl) (by kernel_rfl) (by kernel_rfl) (fun _ _ _ h => h) HF.out rfl ?_ rfl rfl ?_ ?_
  rotate_left
  · intro w' hF; clear hF; go_simp; try rfl
  rotate_left
  · simp only [Act.put]; exact rfl
  refine Calm.take (i := 10) (v := ?_) (a' := ?_) (l' := #[true, true, true, true, true, true, true, true, true, true, true, false, false, false, false]) (d := some 53) rfl (by kernel_rfl) (by kernel_rfl) (by kernel_rfl) (by kernel_rfl) (fun _ _ _ h => h) HF.out rfl ?_ rfl rfl ?_ ?_
  rotate_left
  · intro w' hF; clear hF; go_simp; try rfl
  rotate_left
  · simp only [Act.put]; exact rfl
  refine Calm.take (i := 11) (v := ?_) (a' := ?_) (l' := #[true, true, true, true, true, true, true, true, true, true, true, true, false, false, false]) (d := some 54) rfl (by kernel_rfl) (by kernel_rfl) (by kernel_rfl) (by kernel_rfl) (fun _ _ _ h => h) HF.out (by kernel_rfl) ?_ rfl rfl ?_ ?_
  rotate_left
  · intro w' hF; have f0 := (boxed_step BS.out hF).cell; have f1 := (B1.out.step hF).cell0; have f2 := (B1.out.step hF).cell1; have f3 := (B2.out.step hF).cell0; have f4 := (B2.out.step hF).cell1; clear hF; go_simp; try rfl
  rotate_left
  · simp only [Act.put]; exact rfl
  refine Calm.take (i := 12) (v := ?_) (a' := ?_) (l' := #[true, true, true, true, true, true, true, true, true, true, true, true, true, false, false]) (d := some 55) rfl (by kernel_rfl) (by kernel_rfl) (by kernel_rfl) (by kernel_rfl) (fun _ _ _ h => h) HF.out (by kernel_rfl) ?_ rfl rfl ?_ ?_
  rotate_left
  · intro w' hF; have f0 := (boxed_step BS.out hF).cell; have f1 := (B1.out.step hF).cell0; have f2 := (B1.out.step hF).cell1; have f3 := (B2.out.step hF).cell0; have f4 := (B2.out.step hF).cell1; clear hF; go_simp; try rfl
  rotate_left
  · simp only [Act.put]; exact rfl
  refine Calm.take (i := 13) (v := ?_) (a' := ?_) (l' := #[true, true, true, true, true, true, true, true, true, true, true, true, true, true, false]) (d := some 56) rfl (by kernel_rfl) (by kernel_rfl) (by kernel_rfl) (by kernel_rfl) (fun _ _ _ h => h) HF.out (by kernel_rfl) ?_ rfl rfl ?_ ?_
  rotate_left
  · intro w' hF; clear hF; go_simp; try rfl
  rotate_left
  · simp only [Act.put]; exact rfl
  refine Calm.take (i := 14) (v := ?_) (a' := ?_) (l' := #[true, true, true, true, true, true, true, true, true, true, true, true, true, true, true]) (d := some 57) rfl (by kernel_rfl) (by kernel_rfl) (by kernel_rfl) (by kernel_rfl) (fun _ _ _ h => h) HF.out rfl ?_ rfl rfl ?_ ?_
  rotate_left
  · intro w' hF; clear hF; go_simp; try rfl
  rotate_left
  · simp only [Act.put]; exact rfl
  refine Calm.done (by kernel_rfl) ?_
  replace HB := hide (HB.out.trans ((HF.out).mono HB.out.size))
  replace BE := hide (boxed_step BE.out (HF.out))
  replace BR := hide (boxed_step BR.out (HF.out))
  replace BS := hide (boxed_step BS.out (HF.out))
  replace N1 := hide (N1.out.below (HF.out))
  replace B1 := hide (B1.out.step (HF.out))
  replace N2 := hide (N2.out.below (HF.out))
  replace B2 := hide (B2.out.step (HF.out))
  clear HF N1 N2 B1 B2
  simp only [List.setIfInBounds_toArray, List.set_cons_succ, List.set_cons_zero]
  go_wp2_with fail
  refine (room_any _ xs _ (N0.out.below HB.out) (by have := GX.out; omega)).mono ?_
  rintro e w11 ⟨vh, rfl, hr, hb⟩
  replace HB := hide (HB.out.trans ((hb).mono HB.out.size))
  replace BE := hide (boxed_step BE.out (hb))
  replace BR := hide (boxed_step BR.out (hb))
  replace BS := hide (boxed_step BS.out (hb))
  have NR := hide hr.nums
  clear hr hb
  go_wp2_with fail
  refine (digits_any _ xs _ NR.out (by have := GX.out; omega)).mono ?_
  rintro e w12 ⟨bx, gv, rfl, hx1, hx2, hcx, hO, hb⟩
  replace HB := hide (HB.out.trans ((hb).mono HB.out.size))
  replace BE := hide (boxed_step BE.out (hb))
  replace BR := hide (boxed_step BR.out (hb))
  replace BS := hide (boxed_step BS.out (hb))
  replace NR := hide (NR.out.below (hb))
  have SZ := hide hb.size
  clear hb NR
  have X1 := hide hx1
  have X2 := hide hx2
  have CX := hide hcx
  have OW := hide hO
  clear hx1 hx2 hcx hO
  generalize w11.heap.size = lo at *
  go_wp2_with fail
  have HW0 := hide (below_alloc w12 (.cells #[.int .i64 0] 3))
  have BI := hide (Boxed.new w12 3 (.int .i64 0))
  have SW : Hid ((w12.alloc (.cells #[.int .i64 0] 3)).heap.size = w12.heap.size + 1) := hide (World.size_alloc _ _)
  have HB2 := hide (HB.out.trans ((below_alloc w12 (.cells #[.int .i64 0] 3)).mono HB.out.size))
  have BE2 := hide (BE.out.alloc (.cells #[.int .i64 0] 3))
  have BR2 := hide (BR.out.alloc (.cells #[.int .i64 0] 3))
  have BS2 := hide (BS.out.alloc (.cells #[.int .i64 0] 3))
  have L1 := hide BE.out.lt
  have L2 := hide BR.out.lt
  have L3 := hide BS.out.lt
  have L4 := hide HB.out.size
  generalize w12.alloc (.cells #[.int .i64 0] 3) = W1 at *
  have TS := hide (told_size (val xs))
  have TB := hide (told_bt (val xs))
  generalize txt (val xs) = T at *
  have NB : Hid ((toldD (grp (val xs))).length ≤ 32000000001) := hide (told_few N0.out.ok GX.out)
  refine (wpIn_wide (n := 3)).1 ?_
  refine wpIn_rangeFunc_ownG rfl (by omega) (gf := 25) (lb := #[.pointer (some ⟨bx, 0, none⟩)]) rfl trivial (enters_of Try.func25 (by kernel_rfl) rfl)
    (digits_stops 2 (by omega) bx lo w12.heap.size lo gv (grp (val xs)) (grp_lt _) (grp_ne _) w12 OW.out (Nat.le_refl _) rfl X1.out X2.out CX.out) Keeps.trans
    (fun W l o o' hl _ _ _ k _ h2 => by rw [World.putObj_heap_other (by have := SW.out; omega)]) HW0.out (fun _ => rfl)
    (fun pre W => Boxed W w12.heap.size 3 (.int .i64 (pre.length : Nat)) ∧ SameBut w12.heap.size W1 W)
    (fun c pre W => c = .exit 0 ∧ (∃ n : Int, Boxed W w12.heap.size 3 (.int .i64 n)) ∧ SameBut w12.heap.size W1 W)
    (OwnFrom.and (Go.Own.from (boxed_own _ _ (fun pre : List Dg => .int .i64 (pre.length : Nat))) _) (sameBut_from _ _))
    (fun c => OwnFrom.and (ownFrom_pure _ _) (OwnFrom.and (someI_from _ _) (sameBut_from _ _)))
    ⟨BI.out, SameBut.refl _ _⟩ ?a1696 ?assign1696 ?body1696 ?done1696 ?stop1696
  case assign1696 =>
    intro l x W K hK
    simp only [List.zip_toArray, List.zip_cons_cons, List.zip_nil_right, List.foldl_toArray', List.size_toArray, List.length_cons, List.length_nil, List.foldl_cons, List.foldl_nil, List.setIfInBounds_toArray, List.set_cons_succ, List.set_cons_zero]
    gi_wp2
    exact hK
  case body1696 =>
    rintro l pre x W ⟨hi, hS⟩ hlt
    have hcI := hi.cell
    have hfI := hi.frozen
    have hcE := (hS.boxed BE2.out (by have := L1.out; omega)).cell
    have hlB := NB.out
    have hple : (pre ++ [x]).length = pre.length + 1 := by simp
    have HS := hide hS
    have HI := hide hi
    clear hS hi
    by_cases hq : ((pre.length : Nat) : Int) = early
    · subst hq
      gi_wp2
      exact ⟨(KeepsOthers.refl _).from _, rfl, ⟨_, HI.out⟩, HS.out⟩
    · have hq' : (((pre.length : Nat) : Int) == early) = false := by simp; exact hq
      gi_wp2
      exact ⟨(KeepsOthers.setCell _ _ _).from _, ((SameBut.refl _ W).set _).keeps (Nat.le_refl _) (by have := HS.out.base.size; have := SW.out; omega), by rw [hple]; exact HI.out.set _, HS.out.set _⟩
  case done1696 =>
    rintro D1 ys W hD rfl ⟨hi, hS⟩ hK
    have hcI := hi.cell
    have hfI := hi.frozen
    have HS := hide (hS.set (.int .i64 0))
    have HI := hide (hi.set (.int .i64 0))
    have HK := hide ((Below.heap_setCell W ⟨w12.heap.size, 0, none⟩ (.int .i64 0) D1 (by have := SW.out; show D1 ≠ w12.heap.size; omega)).trans hK)
    have HD := hide hD
    clear hi hS hK hD
    go_wp2_with fail
    clear hcI hfI
    generalize W.setCell ⟨w12.heap.size, 0, none⟩ (.int .i64 0) = W2 at *
    have SW2 : Hid (w12.heap.size + 1 ≤ W2.heap.size) := hide (by have := HS.out.base.size; have := SW.out; omega)
    have HW2 := hide (HS.out.below HW0.out (Nat.le_refl _) (by have := SW.out; omega))
    have BR3 := hide (HS.out.boxed BR2.out (by have := L2.out; omega))
    have BS3 := hide (HS.out.boxed BS2.out (by have := L3.out; omega))
    have HB3 := hide (HS.out.below HB2.out (by have := L4.out; have := L2.out; omega) (by have := L4.out; have := SW.out; have := L2.out; omega))
    clear HS
    refine (wpIn_wide (n := 3)).1 ?_
    refine wpIn_rangeFunc_ownG rfl (by omega) (gf := 25) (lb := #[.pointer (some ⟨bx, 0, none⟩)]) rfl trivial (enters_of Try.func25 (by kernel_rfl) rfl)
      (digits_stops 2 (by omega) bx lo w12.heap.size lo gv (grp (val xs)) (grp_lt _) (grp_ne _) w12 OW.out (Nat.le_refl _) rfl X1.out X2.out CX.out) Keeps.trans
      (fun W l o o' hl _ _ _ k _ h2 => by rw [World.putObj_heap_other (by have := SW2.out; omega)]) HW2.out (fun _ => rfl)
      (fun pre W => Boxed W w12.heap.size 3 (.int .i64 (pre.length : Nat)) ∧ SameBut w12.heap.size W2 W)
      (fun c pre _ => c = .ret ∧ ∃ (pre0 : List Dg) (x : Dg) (h : pre0.length < (toldD (grp (val xs))).length), pre = pre0 ++ [x] ∧ x.1 ≠ ((toldD (grp (val xs)))[pre0.length]).1)
      (OwnFrom.and (Go.Own.from (boxed_own _ _ (fun pre : List Dg => .int .i64 (pre.length : Nat))) _) (sameBut_from _ _))
      (fun c => ownFrom_pure _ _)
      ⟨HI.out, SameBut.refl _ _⟩ ?ad745 ?assignd745 ?bodyd745 ?doned745 ?stopd745
    case assignd745 =>
      intro l x W K hK
      simp only [List.zip_toArray, List.zip_cons_cons, List.zip_nil_right, List.foldl_toArray', List.size_toArray, List.length_cons, List.length_nil, List.foldl_cons, List.foldl_nil, List.setIfInBounds_toArray, List.set_cons_succ, List.set_cons_zero]
      gi_wp2
      exact hK
    case bodyd745 =>
      rintro l pre x W' ⟨hi, hS⟩ hlt
      have hcI := hi.cell
      have hfI := hi.frozen
      have hcS := (hS.boxed BS3.out (by have := L3.out; omega)).cell
      have hcR := (hS.boxed BR3.out (by have := L2.out; omega)).cell
      have hfR := (hS.boxed BR3.out (by have := L2.out; omega)).frozen
      have hlB := NB.out
      have hple : (pre ++ [x]).length = pre.length + 1 := by simp
      have HS := hide hS
      have HI := hide hi
      clear hS hi
      have hts := TS.out
      have hlt2 : pre.length < T.size := by omega
      have hg := bt_get T pre.length hlt2
      have hb := TB.out pre.length hlt
      have hx9 := x.2
      have hd9 := ((toldD (grp (val xs)))[pre.length]).2
      have HLT := hide hlt
      generalize hd : ((toldD (grp (val xs)))[pre.length]).1 = d at *
      have HD9 := hide hd
      clear hd hts
      generalize hc : bt T pre.length = c at *
      have c1 : 48 ≤ c := by omega
      have c2 : c ≤ 57 := by omega
      have HC := hide hb
      clear hc hb
      by_cases hxd : x.1 = d
      · have hcx : (((x.1 : Nat) : Int) != ((c : Nat) : Int) - 48) = false := by have := HC.out; simp; omega
        clear hxd
        gi_wp2
        exact ⟨(KeepsOthers.setCell _ _ _).from _, ((SameBut.refl _ W').set _).keeps (Nat.le_refl _) (by have := HS.out.base.size; have := SW2.out; omega), by rw [hple]; exact HI.out.set _, HS.out.set _⟩
      · have hcx : (((x.1 : Nat) : Int) != ((c : Nat) : Int) - 48) = true := by have := HC.out; simp; omega
        have HX := hide hxd
        clear hxd
        gi_wp2
        exact ⟨(KeepsOthers.setCell _ _ _).from _, rfl, pre, x, HLT.out, rfl, fun e => HX.out (e.trans HD9.out)⟩
    case doned745 =>
      rintro D2 ys W' hD2 rfl ⟨hi, hS⟩ hK2
      rw [← TS.out] at hi
      have hcI := hi.cell
      have hcS := (hS.boxed BS3.out (by have := L3.out; omega)).cell
      have BR4 := hide (hS.boxed BR3.out (by have := L2.out; omega))
      have hcR := BR4.out.cell
      have hfR := BR4.out.frozen
      have LD : Hid (D1 < W2.heap.size) := hide (Array.getElem?_eq_some_iff.1 HK.out).1
      have K1 := hide ((hS.block D1 LD.out (by have := HD.out; have := SW.out; omega)).trans HK.out)
      have K2 := hide hK2
      have HB4 := hide (hS.below HB3.out (by have := L4.out; have := L2.out; omega) (by have := SW2.out; have := L2.out; omega))
      have D2' := hide hD2
      clear hi hS hK2 hD2
      go_wp2
      exact two_marks rfl _ _ w (w.heap.size + 1) D1 D2 true rfl ((Below.heap_setCell _ _ _ _ (by show D1 ≠ w.heap.size + 1; have := HD.out; have := SW.out; have := L2.out; omega)).trans K1.out) ((Below.heap_setCell _ _ _ _ (by show D2 ≠ w.heap.size + 1; have := D2'.out; have := SW2.out; have := L2.out; omega)).trans K2.out) (by have := LD.out; have := D2'.out; omega) (BR4.out.set _) (HB4.out.setCell (p := ⟨w.heap.size + 1, 0, none⟩) (by show w.heap.size ≤ w.heap.size + 1; omega) _) (by have := HD.out; have := SW.out; have := L2.out; omega) (by have := D2'.out; have := SW2.out; have := L2.out; omega)
    case stopd745 =>
      rintro D2 c pre W' hD2 hSp ⟨_, pre0, x, h, rfl, hne⟩ _
      obtain ⟨t, ht⟩ := hSp
      exact absurd (by have := congrArg (fun l => l[pre0.length]?) ht; simp [h] at this; exact congrArg Subtype.val this) hne
  case stop1696 =>
    rintro D1 c pre W hD hSp ⟨rfl, ⟨n, hi⟩, hS⟩ hK
    clear hSp
    gi_wp2
    have hcI := hi.cell
    have hfI := hi.frozen
    have HS := hide (hS.set (.int .i64 0))
    have HI := hide (hi.set (.int .i64 0))
    have HK := hide ((Below.heap_setCell W ⟨w12.heap.size, 0, none⟩ (.int .i64 0) D1 (by have := SW.out; show D1 ≠ w12.heap.size; omega)).trans hK)
    have HD := hide hD
    clear hi hS hK hD
    go_wp2_with fail
    clear hcI hfI
    generalize W.setCell ⟨w12.heap.size, 0, none⟩ (.int .i64 0) = W2 at *
    have SW2 : Hid (w12.heap.size + 1 ≤ W2.heap.size) := hide (by have := HS.out.base.size; have := SW.out; omega)
    have HW2 := hide (HS.out.below HW0.out (Nat.le_refl _) (by have := SW.out; omega))
    have BR3 := hide (HS.out.boxed BR2.out (by have := L2.out; omega))
    have BS3 := hide (HS.out.boxed BS2.out (by have := L3.out; omega))
    have HB3 := hide (HS.out.below HB2.out (by have := L4.out; have := L2.out; omega) (by have := L4.out; have := SW.out; have := L2.out; omega))
    clear HS
    refine (wpIn_wide (n := 3)).1 ?_
    refine wpIn_rangeFunc_ownG rfl (by omega) (gf := 25) (lb := #[.pointer (some ⟨bx, 0, none⟩)]) rfl trivial (enters_of Try.func25 (by kernel_rfl) rfl)
      (digits_stops 2 (by omega) bx lo w12.heap.size lo gv (grp (val xs)) (grp_lt _) (grp_ne _) w12 OW.out (Nat.le_refl _) rfl X1.out X2.out CX.out) Keeps.trans
      (fun W l o o' hl _ _ _ k _ h2 => by rw [World.putObj_heap_other (by have := SW2.out; omega)]) HW2.out (fun _ => rfl)
      (fun pre W => Boxed W w12.heap.size 3 (.int .i64 (pre.length : Nat)) ∧ SameBut w12.heap.size W2 W)
      (fun c pre _ => c = .ret ∧ ∃ (pre0 : List Dg) (x : Dg) (h : pre0.length < (toldD (grp (val xs))).length), pre = pre0 ++ [x] ∧ x.1 ≠ ((toldD (grp (val xs)))[pre0.length]).1)
      (OwnFrom.and (Go.Own.from (boxed_own _ _ (fun pre : List Dg => .int .i64 (pre.length : Nat))) _) (sameBut_from _ _))
      (fun c => ownFrom_pure _ _)
      ⟨HI.out, SameBut.refl _ _⟩ ?as836 ?assigns836 ?bodys836 ?dones836 ?stops836
    case assigns836 =>
      intro l x W K hK
      simp only [List.zip_toArray, List.zip_cons_cons, List.zip_nil_right, List.foldl_toArray', List.size_toArray, List.length_cons, List.length_nil, List.foldl_cons, List.foldl_nil, List.setIfInBounds_toArray, List.set_cons_succ, List.set_cons_zero]
      gi_wp2
      exact hK
    case bodys836 =>
      rintro l pre x W' ⟨hi, hS⟩ hlt
      have hcI := hi.cell
      have hfI := hi.frozen
      have hcS := (hS.boxed BS3.out (by have := L3.out; omega)).cell
      have hcR := (hS.boxed BR3.out (by have := L2.out; omega)).cell
      have hfR := (hS.boxed BR3.out (by have := L2.out; omega)).frozen
      have hlB := NB.out
      have hple : (pre ++ [x]).length = pre.length + 1 := by simp
      have HS := hide hS
      have HI := hide hi
      clear hS hi
      have hts := TS.out
      have hlt2 : pre.length < T.size := by omega
      have hg := bt_get T pre.length hlt2
      have hb := TB.out pre.length hlt
      have hx9 := x.2
      have hd9 := ((toldD (grp (val xs)))[pre.length]).2
      have HLT := hide hlt
      generalize hd : ((toldD (grp (val xs)))[pre.length]).1 = d at *
      have HD9 := hide hd
      clear hd hts
      generalize hc : bt T pre.length = c at *
      have c1 : 48 ≤ c := by omega
      have c2 : c ≤ 57 := by omega
      have HC := hide hb
      clear hc hb
      by_cases hxd : x.1 = d
      · have hcx : (((x.1 : Nat) : Int) != ((c : Nat) : Int) - 48) = false := by have := HC.out; simp; omega
        clear hxd
        gi_wp2
        exact ⟨(KeepsOthers.setCell _ _ _).from _, ((SameBut.refl _ W').set _).keeps (Nat.le_refl _) (by have := HS.out.base.size; have := SW2.out; omega), by rw [hple]; exact HI.out.set _, HS.out.set _⟩
      · have hcx : (((x.1 : Nat) : Int) != ((c : Nat) : Int) - 48) = true := by have := HC.out; simp; omega
        have HX := hide hxd
        clear hxd
        gi_wp2
        exact ⟨(KeepsOthers.setCell _ _ _).from _, rfl, pre, x, HLT.out, rfl, fun e => HX.out (e.trans HD9.out)⟩
    case dones836 =>
      rintro D2 ys W' hD2 rfl ⟨hi, hS⟩ hK2
      rw [← TS.out] at hi
      have hcI := hi.cell
      have hcS := (hS.boxed BS3.out (by have := L3.out; omega)).cell
      have BR4 := hide (hS.boxed BR3.out (by have := L2.out; omega))
      have hcR := BR4.out.cell
      have hfR := BR4.out.frozen
      have LD : Hid (D1 < W2.heap.size) := hide (Array.getElem?_eq_some_iff.1 HK.out).1
      have K1 := hide ((hS.block D1 LD.out (by have := HD.out; have := SW.out; omega)).trans HK.out)
      have K2 := hide hK2
      have HB4 := hide (hS.below HB3.out (by have := L4.out; have := L2.out; omega) (by have := SW2.out; have := L2.out; omega))
      have D2' := hide hD2
      clear hi hS hK2 hD2
      go_wp2
      exact two_marks rfl _ _ w (w.heap.size + 1) D1 D2 true rfl ((Below.heap_setCell _ _ _ _ (by show D1 ≠ w.heap.size + 1; have := HD.out; have := SW.out; have := L2.out; omega)).trans K1.out) ((Below.heap_setCell _ _ _ _ (by show D2 ≠ w.heap.size + 1; have := D2'.out; have := SW2.out; have := L2.out; omega)).trans K2.out) (by have := LD.out; have := D2'.out; omega) (BR4.out.set _) (HB4.out.setCell (p := ⟨w.heap.size + 1, 0, none⟩) (by show w.heap.size ≤ w.heap.size + 1; omega) _) (by have := HD.out; have := SW.out; have := L2.out; omega) (by have := D2'.out; have := SW2.out; have := L2.out; omega)
    case stops836 =>
      rintro D2 c pre W' hD2 hSp ⟨_, pre0, x, h, rfl, hne⟩ _
      obtain ⟨t, ht⟩ := hSp
      exact absurd (by have := congrArg (fun l => l[pre0.length]?) ht; simp [h] at this; exact congrArg Subtype.val this) hne
end Go.Proofs.Ytmnllmonbdjnnaa
