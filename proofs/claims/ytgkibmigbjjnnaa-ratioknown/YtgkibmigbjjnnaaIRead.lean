/- integer.Read: the number of a text, or what is wrong with it. -/
import Derived.Test.YtgkibmigbjjnnaaRead
import Derived.Test.YtgkibmigbjjnnaaPre
import Derived.Test.YtgkibmigbjjnnaaCalm3
namespace Go.Proofs.Ytgkibmigbjjnnaa
open Go.RowKit

/-- what a text reads as: a number with a sign -/
def IRd (s : ByteArray) (z : Int) (a b : Nat) : Prop :=
  (65536 < s.size ∧ z = 0 ∧ a = 3 ∧ b = 65536) ∨
  (s.size ≤ 65536 ∧ hp s 45 = true ∧ hp (rest1 s) 48 = true ∧ z = 0 ∧ a = 6 ∧ b = 1) ∨
  (s.size ≤ 65536 ∧ ¬ (hp s 45 = true ∧ hp (rest1 s) 48 = true) ∧ ∃ xs a' b', Rd (cutP s 45) xs a' b' ∧
    ((a' ≠ 0 ∧ z = 0 ∧ a = a' ∧ b = b' + (s.size - (cutP s 45).size)) ∨ (a' = 0 ∧ z = sg (hp s 45) (val xs) ∧ a = 0 ∧ b = 0)))

theorem rest1_size (s : ByteArray) : (rest1 s).size = s.size - 1 := by simp [rest1]
theorem cutP_size (s : ByteArray) (c : UInt8) : (cutP s c).size ≤ s.size := by unfold cutP; split; rw [rest1_size]; omega; omega
theorem Rd.small {s : ByteArray} {xs : List Nat} {a b : Nat} (h : Rd s xs a b) : a ≤ 6 ∧ b ≤ 65536 := by
  rcases h with ⟨_, _, rfl, rfl⟩ | ⟨_, _, rfl, rfl⟩ | ⟨_, i, _, _, _, _, rfl, rfl⟩ | ⟨_, _, _, _, rfl, rfl⟩ <;> omega
theorem Rd.lims {s : ByteArray} {xs : List Nat} {a b : Nat} (h : Rd s xs a b) : ∃ n, xs = lim n := by
  rcases h with ⟨_, rfl, _, _⟩ | ⟨_, rfl, _, _⟩ | ⟨_, i, _, _, _, rfl, _, _⟩ | ⟨_, _, _, rfl, _, _⟩
  · exact ⟨0, rfl⟩
  · exact ⟨0, rfl⟩
  · exact ⟨0, rfl⟩
  · exact ⟨_, rfl⟩

theorem Rd.none {s : ByteArray} {xs : List Nat} {b : Nat} (h : Rd s xs 0 b) : b = 0 := by
  rcases h with ⟨_, _, h, _⟩ | ⟨_, _, h, _⟩ | ⟨_, i, _, _, _, _, h, _⟩ | ⟨_, _, _, _, _, h⟩ <;> omega
theorem Box2.put {W : World} {B : Nat} {t : TypeId} {x y : Value} (h : Box2 W B t x y) (x' y' : Value) : Box2 ((W.setCell ⟨B, 0, none⟩ x').setCell ⟨B, 1, none⟩ y') B t x' y' := (h.set0 _).set1 _
theorem Box2.other {W : World} {B C : Nat} {t : TypeId} {x y : Value} (h : Box2 W B t x y) (hne : C ≠ B) (x' y' : Value) : Box2 ((W.setCell ⟨C, 0, none⟩ x').setCell ⟨C, 1, none⟩ y') B t x y := (h.set_ne hne _).set_ne hne _
theorem Box2.keeps {W : World} {B : Nat} {t : TypeId} {x y : Value} (h : Box2 W B t x y) (hx : ∀ z, x ≠ .int .u32 z) (hy : ∀ z, y ≠ .int .u32 z) (x' y' : Value) : Spares W ((W.setCell ⟨B, 0, none⟩ x').setCell ⟨B, 1, none⟩ y') :=
  (Spares.set h.cell0 hx x').trans (Spares.set (h.set0 x').cell1 hy y')

/-- a number and a place are handed back -/
theorem ret_ispot {fn : Func} {R : Ending → World → Prop} {a : Act} {w : World} {p q : Tmp} (h : fn.results = #[.cell p 25, .cell q 30]) (g g' : Nat) (x y x' y' : Value)
    (hp : a.tmps.getD p undef = .pointer (some ⟨g, 0, none⟩)) (hq : a.tmps.getD q undef = .pointer (some ⟨g', 0, none⟩)) (hg : Box w g x y) (hg' : Box2 w g' 30 x' y') (hd : a.defers = []) (hR : R (.returned (.tuple #[.agg #[x, y], .agg #[x', y']])) w) : bodyPost Try.prog fn R .ret a w := by
  refine bodyPost_ret ?_ hd hR
  have hp' : a.tmps[p]?.getD undef = .pointer (some ⟨g, 0, none⟩) := by simpa using hp
  have hq' : a.tmps[q]?.getD undef = .pointer (some ⟨g', 0, none⟩) := by simpa using hq
  simp [results, h, hp', hq', asAddr, run_loadVar_row w g 25 25 #[x, y] (0, 0) _ hg Try.underlying25 rfl Try.infoInt, run_loadVar_row w g' 30 30 #[x', y'] (0, 0) _ hg' Try.underlying30 rfl Try.infoSpot]

theorem boxis (w : World) (x y x' y' : Value) : ∀ W, W = (w.alloc (.cells #[x, y] 25)).alloc (.cells #[x', y'] 30) → Box W w.heap.size x y ∧ Box2 W (w.heap.size + 1) 30 x' y' ∧ Below w.heap.size w W := by
  rintro W rfl
  exact ⟨(Box.new _ _ _).step (below_alloc _ _), by have := Box2.new (w.alloc (.cells #[x, y] 25)) 30 x' y'; rwa [World.size_alloc] at this, (below_alloc _ _).trans ((below_alloc _ _).mono (by simp))⟩
theorem int_zero (w : World) : IntAt w (.agg #[.bool false, .slice none 0 0]) 0 := ⟨false, 0, none, 0, by rw [lim_zero]; rfl, by rw [lim_zero]; exact Nums.nil_mk _ _ _ (Nat.zero_le _), rfl, fun _ => rfl⟩

set_option maxRecDepth 100000 in
set_option maxHeartbeats 4000000 in
theorem iread_any (s : ByteArray) (w : World) (hs : s.size ≤ 9223372036854775807) :
    Calls Try.prog 34 #[.string s] w fun e w' => ∃ v z a b, e = .returned (.tuple #[v, .agg #[.int .i64 (a : Nat), .int .i64 (b : Nat)]]) ∧ IntAt w' v z ∧ IRd s z a b ∧ Below w.heap.size w w' := by
  go_enter Try.func34, Try.ntmps34
  by_cases hb : 65536 < s.size
  · go_wp2
    have HE := boxis w (.bool false) (.slice none 0 0) (.int .i64 3) (.int .i64 65536) _ rfl
    refine ret_ispot rfl w.heap.size (w.heap.size + 1) _ _ _ _ rfl rfl HE.1 HE.2.1 rfl ?_
    exact ⟨_, 0, 3, 65536, rfl, int_zero _, .inl ⟨hb, rfl, rfl, rfl⟩, HE.2.2⟩
  · go_wp2_with fail
    refine (cutPrefix_any s 45 _ hs).mono ?_
    rintro e w' ⟨rfl, rfl⟩
    have HS := hide hb
    have hcs := cutP_size s 45
    clear hb
    obtain ⟨d, hd⟩ : ∃ d, d = cutP s 45 := ⟨_, rfl⟩
    rw [← hd] at hcs ⊢
    have HD := hide hd
    clear hd
    have HE := hide (boxis w (.bool false) (.slice none 0 0) (.int .i64 0) (.int .i64 0) _ rfl)
    cases hc : hp s 45 with
    | true =>
      have HC := hide hc
      clear hc
      go_wp2_with fail
      refine (hasPrefix_any d 48 _ (by omega)).mono ?_
      rintro e w' ⟨rfl, rfl⟩
      cases h2 : hp d 48 with
      | true =>
        have H2 := hide h2
        clear h2
        go_wp2
        have HF := boxis w (.bool false) (.slice none 0 0) (.int .i64 6) (.int .i64 1) _ rfl
        refine ret_ispot rfl w.heap.size (w.heap.size + 1) _ _ _ _ rfl rfl HF.1 HF.2.1 rfl ?_
        have e1 : d = rest1 s := by rw [HD.out, cutP, if_pos HC.out]
        exact ⟨_, 0, 6, 1, rfl, int_zero _, .inr (.inl ⟨by have := HS.out; omega, HC.out, by rw [← e1]; exact H2.out, rfl, rfl, rfl⟩), HF.2.2⟩
      | false =>
        have HNO : Hid (¬ (hp s 45 = true ∧ hp (rest1 s) 48 = true)) := hide (by
          have e1 : d = rest1 s := by rw [HD.out, cutP, if_pos HC.out]
          rw [← e1, h2]; simp)
        clear h2
        go_wp2_with fail
        refine (read_any d _ (by omega)).mono ?_
        rintro e w3 ⟨v3, xs, a', b', rfl, n3, hr, hb3⟩
        have hsm := hr.small
        obtain ⟨n, rfl⟩ := hr.lims
        have HR := hide hr
        have HN := hide n3
        have HB := hide (HE.out.2.2.trans (hb3.mono HE.out.2.2.size))
        have P0 := hide (HE.out.1.step hb3)
        have P1 := hide (HE.out.2.1.step hb3)
        clear hr n3 hb3 HE
        by_cases ha : a' = 0
        · subst ha
          have hb0 := HR.out.none
          subst hb0
          go_wp2_with fail
          have al := below_alloc w3 (.cells #[.int .i64 0, .int .i64 0] 30)
          have PS := hide (Box2.new w3 30 (.int .i64 0) (.int .i64 0))
          have LTS : Hid (w.heap.size + 1 < w3.heap.size) := hide P1.out.lt
          replace HB := hide (HB.out.trans (al.mono HB.out.size))
          replace P0 := hide (P0.out.step al)
          replace P1 := hide (P1.out.step al)
          replace HN := hide (HN.out.below al)
          clear al
          generalize w3.alloc (.cells #[.int .i64 0, .int .i64 0] 30) = w4 at *
          generalize w3.heap.size = gs at *
          replace P0 := hide P0.out.drew
          replace P1 := hide P1.out.drew
          refine wp_calm (fun w' => Below w.heap.size w w' ∧ Box2 w' gs 30 (.int .i64 0) (.int .i64 0) ∧ Nums w' v3 (lim n)) (fun _ => true) 6 #[false, false, false, false, false, false] (by kernel_rfl) rfl rfl ?_
          have HF := hide (And.intro (HB.out.drew) (And.intro (PS.out.drew) (HN.out.drew)))
          generalize w4.drew = w4d at *
          refine Calm.take (i := 0) (v := ?_) (a' := ?_) (l' := #[true, false, false, false, false, false]) (d := some 44) rfl (by kernel_rfl) (by kernel_rfl) (by kernel_rfl) (by kernel_rfl) (fun _ _ _ h => h) HF.out rfl ?_ rfl rfl ?_ ?_
          rotate_left
          · intro w' hF; clear hF; go_simp; try rfl
          rotate_left
          · simp only [Act.put]; exact rfl
          refine Calm.take (i := 1) (v := ?_) (a' := ?_) (l' := #[true, true, false, false, false, false]) (d := some 45) rfl (by kernel_rfl) (by kernel_rfl) (by kernel_rfl) (by kernel_rfl) (fun _ _ _ h => h) HF.out rfl ?_ rfl rfl ?_ ?_
          rotate_left
          · intro w' hF; clear hF; go_simp; try rfl
          rotate_left
          · simp only [Act.put]; exact rfl
          refine Calm.take (i := 3) (v := ?_) (a' := ?_) (l' := #[true, true, false, true, false, false]) (d := some 47) rfl (by kernel_rfl) (by kernel_rfl) (by kernel_rfl) (by kernel_rfl) (fun _ _ _ h => h) HF.out rfl ?_ rfl rfl ?_ ?_
          rotate_left
          · intro w' hF; have f10 := hF.2.1.cell0; have f11 := hF.2.1.cell1; clear hF; go_simp; try rfl
          rotate_left
          · simp only [Act.put]; exact rfl
          refine Calm.one (i := 2) (l' := #[true, true, true, true, false, false]) (by kernel_rfl) rfl rfl rfl fun K hK => ?_
          go_simp
          refine (made_any true n _ _ HF.out.2.2).mono ?_
          rintro e u1 ⟨v, rfl, n, hb⟩
          obtain ⟨sq, mq, kq, cq, rfl, n⟩ := n.cells
          replace P0 := hide (P0.out.step (hb))
          replace P1 := hide (P1.out.step (hb))
          have HF' := hide (And.intro (HF.out.1.trans ((hb).mono HF.out.1.size)) (And.intro (HF.out.2.1.step (hb)) (HF.out.2.2.below (hb))))
          have TQ := hide (n)
          refine hK _ _ (fun _ => HF'.out) ?_
          clear hK K HF hb n
          have HF := hide HF'.out
          clear HF'
          refine Calm.one (i := 4) (l' := #[true, true, true, true, true, false]) (by kernel_rfl) rfl rfl rfl fun K hK => ?_
          have hc0 := P0.out.cell0
          have hc1 := P0.out.cell1
          have hf0 := P0.out.free 0
          have hf1 := P0.out.free 1
          go_simp
          have HF' := hide (And.intro (below_put HF.out.1 (show w.heap.size ≤ w.heap.size by have hx := LTS.out; omega) (.bool sq) (.slice mq kq cq)) (And.intro (HF.out.2.1.other (C := w.heap.size) (by have hx := LTS.out; omega) (.bool sq) (.slice mq kq cq)) (P0.out.keeps (by simp) (by simp) (.bool sq) (.slice mq kq cq) _ _ HF.out.2.2)))
          replace P1 := hide (P1.out.other (C := w.heap.size) (by have hx := LTS.out; omega) (.bool sq) (.slice mq kq cq))
          replace TQ := hide (TQ.out.keep (P0.out.keeps (by simp) (by simp) (.bool sq) (.slice mq kq cq)))
          replace P0 := hide (P0.out.put (.bool sq) (.slice mq kq cq))
          refine hK _ _ (fun _ => HF'.out) ?_
          clear hK K HF hc0 hc1 hf0 hf1
          have HF := hide HF'.out
          clear HF'
          generalize (u1.setCell ⟨w.heap.size, 0, none⟩ (.bool sq)).setCell ⟨w.heap.size, 1, none⟩ (.slice mq kq cq) = ws1 at *
          refine Calm.one (i := 5) (l' := #[true, true, true, true, true, true]) (by kernel_rfl) rfl rfl rfl fun K hK => ?_
          have hc0 := P1.out.cell0
          have hc1 := P1.out.cell1
          have hf0 := P1.out.free 0
          have hf1 := P1.out.free 1
          go_simp
          have HF' := hide (And.intro (below_put HF.out.1 (show w.heap.size ≤ (w.heap.size + 1) by have hx := LTS.out; omega) (.int .i64 0) (.int .i64 0)) (And.intro (HF.out.2.1.other (C := (w.heap.size + 1)) (by have hx := LTS.out; omega) (.int .i64 0) (.int .i64 0)) (P1.out.keeps (by simp) (by simp) (.int .i64 0) (.int .i64 0) _ _ HF.out.2.2)))
          replace P0 := hide (P0.out.other (C := (w.heap.size + 1)) (by have hx := LTS.out; omega) (.int .i64 0) (.int .i64 0))
          replace TQ := hide (TQ.out.keep (P1.out.keeps (by simp) (by simp) (.int .i64 0) (.int .i64 0)))
          replace P1 := hide (P1.out.put (.int .i64 0) (.int .i64 0))
          refine hK _ _ (fun _ => HF'.out) ?_
          clear hK K HF hc0 hc1 hf0 hf1
          have HF := hide HF'.out
          clear HF'
          generalize (ws1.setCell ⟨(w.heap.size + 1), 0, none⟩ (.int .i64 0)).setCell ⟨(w.heap.size + 1), 1, none⟩ (.int .i64 0) = ws2 at *
          refine Calm.done (by kernel_rfl) ?_
          go_wp2
          refine ret_ispot rfl w.heap.size (w.heap.size + 1) _ _ _ _ rfl rfl P0.out P1.out rfl ?_
          exact ⟨_, _, 0, 0, rfl, TQ.out, .inr (.inr ⟨by have := HS.out; omega, HNO.out, _, 0, 0, HD.out ▸ HR.out, .inr ⟨rfl, by rw [HC.out, val_lim], rfl, rfl⟩⟩), HF.out.1⟩
        · have hne : ((a' : Int) == 0) = false := by simp; omega
          go_wp2_with fail
          have al := below_alloc w3 (.cells #[.int .i64 (a' : Nat), .int .i64 ((b' : Int) + ((s.size : Int) - (d.size : Int)))] 30)
          have PS := hide (Box2.new w3 30 (.int .i64 (a' : Nat)) (.int .i64 ((b' : Int) + ((s.size : Int) - (d.size : Int)))))
          have LTS : Hid (w.heap.size + 1 < w3.heap.size) := hide P1.out.lt
          replace HB := hide (HB.out.trans (al.mono HB.out.size))
          replace P0 := hide (P0.out.step al)
          replace P1 := hide (P1.out.step al)
          replace HN := hide (HN.out.below al)
          clear al
          generalize w3.alloc (.cells #[.int .i64 (a' : Nat), .int .i64 ((b' : Int) + ((s.size : Int) - (d.size : Int)))] 30) = w4 at *
          generalize w3.heap.size = gs at *
          clear hne HN
          replace P0 := hide P0.out.drew
          replace P1 := hide P1.out.drew
          refine wp_calm (fun w' => Below w.heap.size w w' ∧ Box2 w' gs 30 (.int .i64 (a' : Nat)) (.int .i64 ((b' : Int) + ((s.size : Int) - (d.size : Int))))) (fun _ => true) 4 #[false, false, false, false] (by kernel_rfl) rfl rfl ?_
          have HF := hide (And.intro (HB.out.drew) (PS.out.drew))
          generalize w4.drew = w4d at *
          refine Calm.take (i := 0) (v := ?_) (a' := ?_) (l' := #[true, false, false, false]) (d := some 42) rfl (by kernel_rfl) (by kernel_rfl) (by kernel_rfl) (by kernel_rfl) (fun _ _ _ h => h) HF.out rfl ?_ rfl rfl ?_ ?_
          rotate_left
          · intro w' hF; clear hF; go_simp; try rfl
          rotate_left
          · simp only [Act.put]; exact rfl
          refine Calm.take (i := 1) (v := ?_) (a' := ?_) (l' := #[true, true, false, false]) (d := some 43) rfl (by kernel_rfl) (by kernel_rfl) (by kernel_rfl) (by kernel_rfl) (fun _ _ _ h => h) HF.out rfl ?_ rfl rfl ?_ ?_
          rotate_left
          · intro w' hF; have f10 := hF.2.cell0; have f11 := hF.2.cell1; clear hF; go_simp; try rfl
          rotate_left
          · simp only [Act.put]; exact rfl
          refine Calm.one (i := 2) (l' := #[true, true, true, false]) (by kernel_rfl) rfl rfl rfl fun K hK => ?_
          have hc0 := P0.out.cell0
          have hc1 := P0.out.cell1
          have hf0 := P0.out.free 0
          have hf1 := P0.out.free 1
          go_simp
          have HF' := hide (And.intro (below_put HF.out.1 (show w.heap.size ≤ w.heap.size by have hx := LTS.out; omega) (.bool false) (.slice none 0 0)) (HF.out.2.other (C := w.heap.size) (by have hx := LTS.out; omega) (.bool false) (.slice none 0 0)))
          replace P1 := hide (P1.out.other (C := w.heap.size) (by have hx := LTS.out; omega) (.bool false) (.slice none 0 0))
          replace P0 := hide (P0.out.put (.bool false) (.slice none 0 0))
          refine hK _ _ (fun _ => HF'.out) ?_
          clear hK K HF hc0 hc1 hf0 hf1
          have HF := hide HF'.out
          clear HF'
          generalize (w4d.setCell ⟨w.heap.size, 0, none⟩ (.bool false)).setCell ⟨w.heap.size, 1, none⟩ (.slice none 0 0) = ws1 at *
          refine Calm.one (i := 3) (l' := #[true, true, true, true]) (by kernel_rfl) rfl rfl rfl fun K hK => ?_
          have hc0 := P1.out.cell0
          have hc1 := P1.out.cell1
          have hf0 := P1.out.free 0
          have hf1 := P1.out.free 1
          go_simp
          have HF' := hide (And.intro (below_put HF.out.1 (show w.heap.size ≤ (w.heap.size + 1) by have hx := LTS.out; omega) (.int .i64 (a' : Nat)) (.int .i64 ((b' : Int) + ((s.size : Int) - (d.size : Int))))) (HF.out.2.other (C := (w.heap.size + 1)) (by have hx := LTS.out; omega) (.int .i64 (a' : Nat)) (.int .i64 ((b' : Int) + ((s.size : Int) - (d.size : Int))))))
          replace P0 := hide (P0.out.other (C := (w.heap.size + 1)) (by have hx := LTS.out; omega) (.int .i64 (a' : Nat)) (.int .i64 ((b' : Int) + ((s.size : Int) - (d.size : Int)))))
          replace P1 := hide (P1.out.put (.int .i64 (a' : Nat)) (.int .i64 ((b' : Int) + ((s.size : Int) - (d.size : Int)))))
          refine hK _ _ (fun _ => HF'.out) ?_
          clear hK K HF hc0 hc1 hf0 hf1
          have HF := hide HF'.out
          clear HF'
          generalize (ws1.setCell ⟨(w.heap.size + 1), 0, none⟩ (.int .i64 (a' : Nat))).setCell ⟨(w.heap.size + 1), 1, none⟩ (.int .i64 ((b' : Int) + ((s.size : Int) - (d.size : Int)))) = ws2 at *
          refine Calm.done (by kernel_rfl) ?_
          go_wp2
          refine ret_ispot rfl w.heap.size (w.heap.size + 1) _ _ _ _ rfl rfl P0.out P1.out rfl ?_
          refine ⟨_, 0, a', b' + (s.size - d.size), ?_, int_zero _, .inr (.inr ⟨by have := HS.out; omega, HNO.out, _, a', b', HD.out ▸ HR.out, .inl ⟨ha, rfl, rfl, by rw [← HD.out]⟩⟩), HF.out.1⟩
          rw [show ((b' : Int) + ((s.size : Int) - (d.size : Int))) = ((b' + (s.size - d.size) : Nat) : Int) by omega]
    | false =>
      have HC := hide hc
      have HNO : Hid (¬ (hp s 45 = true ∧ hp (rest1 s) 48 = true)) := hide (by rw [hc]; simp)
      clear hc
      go_wp2_with fail
      refine (read_any d _ (by omega)).mono ?_
      rintro e w3 ⟨v3, xs, a', b', rfl, n3, hr, hb3⟩
      have hsm := hr.small
      obtain ⟨n, rfl⟩ := hr.lims
      have HR := hide hr
      have HN := hide n3
      have HB := hide (HE.out.2.2.trans (hb3.mono HE.out.2.2.size))
      have P0 := hide (HE.out.1.step hb3)
      have P1 := hide (HE.out.2.1.step hb3)
      clear hr n3 hb3 HE
      by_cases ha : a' = 0
      · subst ha
        have hb0 := HR.out.none
        subst hb0
        go_wp2_with fail
        have al := below_alloc w3 (.cells #[.int .i64 0, .int .i64 0] 30)
        have PS := hide (Box2.new w3 30 (.int .i64 0) (.int .i64 0))
        have LTS : Hid (w.heap.size + 1 < w3.heap.size) := hide P1.out.lt
        replace HB := hide (HB.out.trans (al.mono HB.out.size))
        replace P0 := hide (P0.out.step al)
        replace P1 := hide (P1.out.step al)
        replace HN := hide (HN.out.below al)
        clear al
        generalize w3.alloc (.cells #[.int .i64 0, .int .i64 0] 30) = w4 at *
        generalize w3.heap.size = gs at *
        replace P0 := hide P0.out.drew
        replace P1 := hide P1.out.drew
        refine wp_calm (fun w' => Below w.heap.size w w' ∧ Box2 w' gs 30 (.int .i64 0) (.int .i64 0) ∧ Nums w' v3 (lim n)) (fun _ => true) 6 #[false, false, false, false, false, false] (by kernel_rfl) rfl rfl ?_
        have HF := hide (And.intro (HB.out.drew) (And.intro (PS.out.drew) (HN.out.drew)))
        generalize w4.drew = w4d at *
        refine Calm.take (i := 0) (v := ?_) (a' := ?_) (l' := #[true, false, false, false, false, false]) (d := some 44) rfl (by kernel_rfl) (by kernel_rfl) (by kernel_rfl) (by kernel_rfl) (fun _ _ _ h => h) HF.out rfl ?_ rfl rfl ?_ ?_
        rotate_left
        · intro w' hF; clear hF; go_simp; try rfl
        rotate_left
        · simp only [Act.put]; exact rfl
        refine Calm.take (i := 1) (v := ?_) (a' := ?_) (l' := #[true, true, false, false, false, false]) (d := some 45) rfl (by kernel_rfl) (by kernel_rfl) (by kernel_rfl) (by kernel_rfl) (fun _ _ _ h => h) HF.out rfl ?_ rfl rfl ?_ ?_
        rotate_left
        · intro w' hF; clear hF; go_simp; try rfl
        rotate_left
        · simp only [Act.put]; exact rfl
        refine Calm.take (i := 3) (v := ?_) (a' := ?_) (l' := #[true, true, false, true, false, false]) (d := some 47) rfl (by kernel_rfl) (by kernel_rfl) (by kernel_rfl) (by kernel_rfl) (fun _ _ _ h => h) HF.out rfl ?_ rfl rfl ?_ ?_
        rotate_left
        · intro w' hF; have f10 := hF.2.1.cell0; have f11 := hF.2.1.cell1; clear hF; go_simp; try rfl
        rotate_left
        · simp only [Act.put]; exact rfl
        refine Calm.one (i := 2) (l' := #[true, true, true, true, false, false]) (by kernel_rfl) rfl rfl rfl fun K hK => ?_
        go_simp
        refine (made_any false n _ _ HF.out.2.2).mono ?_
        rintro e u1 ⟨v, rfl, n, hb⟩
        obtain ⟨sq, mq, kq, cq, rfl, n⟩ := n.cells
        replace P0 := hide (P0.out.step (hb))
        replace P1 := hide (P1.out.step (hb))
        have HF' := hide (And.intro (HF.out.1.trans ((hb).mono HF.out.1.size)) (And.intro (HF.out.2.1.step (hb)) (HF.out.2.2.below (hb))))
        have TQ := hide (n)
        refine hK _ _ (fun _ => HF'.out) ?_
        clear hK K HF hb n
        have HF := hide HF'.out
        clear HF'
        refine Calm.one (i := 4) (l' := #[true, true, true, true, true, false]) (by kernel_rfl) rfl rfl rfl fun K hK => ?_
        have hc0 := P0.out.cell0
        have hc1 := P0.out.cell1
        have hf0 := P0.out.free 0
        have hf1 := P0.out.free 1
        go_simp
        have HF' := hide (And.intro (below_put HF.out.1 (show w.heap.size ≤ w.heap.size by have hx := LTS.out; omega) (.bool sq) (.slice mq kq cq)) (And.intro (HF.out.2.1.other (C := w.heap.size) (by have hx := LTS.out; omega) (.bool sq) (.slice mq kq cq)) (P0.out.keeps (by simp) (by simp) (.bool sq) (.slice mq kq cq) _ _ HF.out.2.2)))
        replace P1 := hide (P1.out.other (C := w.heap.size) (by have hx := LTS.out; omega) (.bool sq) (.slice mq kq cq))
        replace TQ := hide (TQ.out.keep (P0.out.keeps (by simp) (by simp) (.bool sq) (.slice mq kq cq)))
        replace P0 := hide (P0.out.put (.bool sq) (.slice mq kq cq))
        refine hK _ _ (fun _ => HF'.out) ?_
        clear hK K HF hc0 hc1 hf0 hf1
        have HF := hide HF'.out
        clear HF'
        generalize (u1.setCell ⟨w.heap.size, 0, none⟩ (.bool sq)).setCell ⟨w.heap.size, 1, none⟩ (.slice mq kq cq) = ws1 at *
        refine Calm.one (i := 5) (l' := #[true, true, true, true, true, true]) (by kernel_rfl) rfl rfl rfl fun K hK => ?_
        have hc0 := P1.out.cell0
        have hc1 := P1.out.cell1
        have hf0 := P1.out.free 0
        have hf1 := P1.out.free 1
        go_simp
        have HF' := hide (And.intro (below_put HF.out.1 (show w.heap.size ≤ (w.heap.size + 1) by have hx := LTS.out; omega) (.int .i64 0) (.int .i64 0)) (And.intro (HF.out.2.1.other (C := (w.heap.size + 1)) (by have hx := LTS.out; omega) (.int .i64 0) (.int .i64 0)) (P1.out.keeps (by simp) (by simp) (.int .i64 0) (.int .i64 0) _ _ HF.out.2.2)))
        replace P0 := hide (P0.out.other (C := (w.heap.size + 1)) (by have hx := LTS.out; omega) (.int .i64 0) (.int .i64 0))
        replace TQ := hide (TQ.out.keep (P1.out.keeps (by simp) (by simp) (.int .i64 0) (.int .i64 0)))
        replace P1 := hide (P1.out.put (.int .i64 0) (.int .i64 0))
        refine hK _ _ (fun _ => HF'.out) ?_
        clear hK K HF hc0 hc1 hf0 hf1
        have HF := hide HF'.out
        clear HF'
        generalize (ws1.setCell ⟨(w.heap.size + 1), 0, none⟩ (.int .i64 0)).setCell ⟨(w.heap.size + 1), 1, none⟩ (.int .i64 0) = ws2 at *
        refine Calm.done (by kernel_rfl) ?_
        go_wp2
        refine ret_ispot rfl w.heap.size (w.heap.size + 1) _ _ _ _ rfl rfl P0.out P1.out rfl ?_
        exact ⟨_, _, 0, 0, rfl, TQ.out, .inr (.inr ⟨by have := HS.out; omega, HNO.out, _, 0, 0, HD.out ▸ HR.out, .inr ⟨rfl, by rw [HC.out, val_lim], rfl, rfl⟩⟩), HF.out.1⟩
      · have hne : ((a' : Int) == 0) = false := by simp; omega
        go_wp2_with fail
        have al := below_alloc w3 (.cells #[.int .i64 (a' : Nat), .int .i64 ((b' : Int) + ((s.size : Int) - (d.size : Int)))] 30)
        have PS := hide (Box2.new w3 30 (.int .i64 (a' : Nat)) (.int .i64 ((b' : Int) + ((s.size : Int) - (d.size : Int)))))
        have LTS : Hid (w.heap.size + 1 < w3.heap.size) := hide P1.out.lt
        replace HB := hide (HB.out.trans (al.mono HB.out.size))
        replace P0 := hide (P0.out.step al)
        replace P1 := hide (P1.out.step al)
        replace HN := hide (HN.out.below al)
        clear al
        generalize w3.alloc (.cells #[.int .i64 (a' : Nat), .int .i64 ((b' : Int) + ((s.size : Int) - (d.size : Int)))] 30) = w4 at *
        generalize w3.heap.size = gs at *
        clear hne HN
        replace P0 := hide P0.out.drew
        replace P1 := hide P1.out.drew
        refine wp_calm (fun w' => Below w.heap.size w w' ∧ Box2 w' gs 30 (.int .i64 (a' : Nat)) (.int .i64 ((b' : Int) + ((s.size : Int) - (d.size : Int))))) (fun _ => true) 4 #[false, false, false, false] (by kernel_rfl) rfl rfl ?_
        have HF := hide (And.intro (HB.out.drew) (PS.out.drew))
        generalize w4.drew = w4d at *
        refine Calm.take (i := 0) (v := ?_) (a' := ?_) (l' := #[true, false, false, false]) (d := some 42) rfl (by kernel_rfl) (by kernel_rfl) (by kernel_rfl) (by kernel_rfl) (fun _ _ _ h => h) HF.out rfl ?_ rfl rfl ?_ ?_
        rotate_left
        · intro w' hF; clear hF; go_simp; try rfl
        rotate_left
        · simp only [Act.put]; exact rfl
        refine Calm.take (i := 1) (v := ?_) (a' := ?_) (l' := #[true, true, false, false]) (d := some 43) rfl (by kernel_rfl) (by kernel_rfl) (by kernel_rfl) (by kernel_rfl) (fun _ _ _ h => h) HF.out rfl ?_ rfl rfl ?_ ?_
        rotate_left
        · intro w' hF; have f10 := hF.2.cell0; have f11 := hF.2.cell1; clear hF; go_simp; try rfl
        rotate_left
        · simp only [Act.put]; exact rfl
        refine Calm.one (i := 2) (l' := #[true, true, true, false]) (by kernel_rfl) rfl rfl rfl fun K hK => ?_
        have hc0 := P0.out.cell0
        have hc1 := P0.out.cell1
        have hf0 := P0.out.free 0
        have hf1 := P0.out.free 1
        go_simp
        have HF' := hide (And.intro (below_put HF.out.1 (show w.heap.size ≤ w.heap.size by have hx := LTS.out; omega) (.bool false) (.slice none 0 0)) (HF.out.2.other (C := w.heap.size) (by have hx := LTS.out; omega) (.bool false) (.slice none 0 0)))
        replace P1 := hide (P1.out.other (C := w.heap.size) (by have hx := LTS.out; omega) (.bool false) (.slice none 0 0))
        replace P0 := hide (P0.out.put (.bool false) (.slice none 0 0))
        refine hK _ _ (fun _ => HF'.out) ?_
        clear hK K HF hc0 hc1 hf0 hf1
        have HF := hide HF'.out
        clear HF'
        generalize (w4d.setCell ⟨w.heap.size, 0, none⟩ (.bool false)).setCell ⟨w.heap.size, 1, none⟩ (.slice none 0 0) = ws1 at *
        refine Calm.one (i := 3) (l' := #[true, true, true, true]) (by kernel_rfl) rfl rfl rfl fun K hK => ?_
        have hc0 := P1.out.cell0
        have hc1 := P1.out.cell1
        have hf0 := P1.out.free 0
        have hf1 := P1.out.free 1
        go_simp
        have HF' := hide (And.intro (below_put HF.out.1 (show w.heap.size ≤ (w.heap.size + 1) by have hx := LTS.out; omega) (.int .i64 (a' : Nat)) (.int .i64 ((b' : Int) + ((s.size : Int) - (d.size : Int))))) (HF.out.2.other (C := (w.heap.size + 1)) (by have hx := LTS.out; omega) (.int .i64 (a' : Nat)) (.int .i64 ((b' : Int) + ((s.size : Int) - (d.size : Int))))))
        replace P0 := hide (P0.out.other (C := (w.heap.size + 1)) (by have hx := LTS.out; omega) (.int .i64 (a' : Nat)) (.int .i64 ((b' : Int) + ((s.size : Int) - (d.size : Int)))))
        replace P1 := hide (P1.out.put (.int .i64 (a' : Nat)) (.int .i64 ((b' : Int) + ((s.size : Int) - (d.size : Int)))))
        refine hK _ _ (fun _ => HF'.out) ?_
        clear hK K HF hc0 hc1 hf0 hf1
        have HF := hide HF'.out
        clear HF'
        generalize (ws1.setCell ⟨(w.heap.size + 1), 0, none⟩ (.int .i64 (a' : Nat))).setCell ⟨(w.heap.size + 1), 1, none⟩ (.int .i64 ((b' : Int) + ((s.size : Int) - (d.size : Int)))) = ws2 at *
        refine Calm.done (by kernel_rfl) ?_
        go_wp2
        refine ret_ispot rfl w.heap.size (w.heap.size + 1) _ _ _ _ rfl rfl P0.out P1.out rfl ?_
        refine ⟨_, 0, a', b' + (s.size - d.size), ?_, int_zero _, .inr (.inr ⟨by have := HS.out; omega, HNO.out, _, a', b', HD.out ▸ HR.out, .inl ⟨ha, rfl, rfl, by rw [← HD.out]⟩⟩), HF.out.1⟩
        rw [show ((b' : Int) + ((s.size : Int) - (d.size : Int))) = ((b' + (s.size - d.size) : Nat) : Int) by omega]
end Go.Proofs.Ytgkibmigbjjnnaa
