/- The document's answers for layer 2 (swageref02): Make. -/
import Derived.Test.YtapodkjmhenceaaR2Norm
namespace Go.Proofs.Ytapodkjmhenceaa
open Go.RowKit

/-- an append to what is owned, as one step of a statement that draws its order -/
theorem oper_append_own {P : Program} {o : Oper} {a : Act} {w : World} {K : Act → World → Prop} {Q : Exit → Act → World → Prop} (s x : Operand) (t : TypeId) (hop : o.op = Op.call { callee := Callee.builtin Builtin.append, args := #[s, x], argTypes := #[t, t] })
    (base : Nat) (e : TypeId) (i : TypeInfo) (z : Value) (size bytes : Nat) (h1 : P.underlying t = some (.slice e)) (h2 : P.info? e = some i) (h3 : i.zero = some z) (h4 : i.size = size) (h5 : i.bytes = bytes) (h6 : z.cells.size = size) (h7 : 0 < size)
    (v : Value) (n : Nat) (olds : List Value) (hs : a.eval s = v) (hO : w.ownsRow base e size v n olds) (ad : Addr) (m c : Nat) (news : List Value) (hx : a.eval x = .slice (some ad) m c) (hn : news.length = m * size)
    (hc : ∀ j u, news[j]? = some u → w.cell? (ad.add j) = some u) (h1c : ∀ u ∈ news, u.oneCell' = true) (b1 : n + m ≤ maxLen) (b2 : (n + m) * bytes ≤ 140737488355328) (hb : base ≤ w.heap.size)
    (hK : ∀ v' w', w'.ownsRow base e size v' (n + m) (olds ++ news) → w.grownBy w' v.ownBlock → K (a.put o.dst v') w') : Oper.wp P o a w K Q := by
  obtain ⟨v', w', hrun, r1, r2, _⟩ := run_append_own (P := P) w base t o.type e i z size bytes h1 h2 h3 h4 h5 h6 h7 v n olds hO ad m c news hn hc h1c b1 b2 hb
  unfold Oper.wp
  simp [execOp, hop, resolve, invoke, builtin, hs, hx, hrun, Result.andThen]
  exact hK v' w' r1 r2

/-- each limb as two digits -/
def two : List Nat → List Nat
  | [] => []
  | x :: xs => x % 65536 :: x / 65536 :: two xs
theorem two_length (xs : List Nat) : (two xs).length = 2 * xs.length := by
  induction xs with
  | nil => rfl
  | cons x xs ih => simp only [two, List.length_cons, ih]; omega
theorem two_ok {xs : List Nat} (h : Ok xs) : D.Ok (two xs) := by
  induction xs with
  | nil => exact D.Ok.nil
  | cons x xs ih =>
    have := h.head
    exact D.Ok.cons (Nat.mod_lt _ (by decide)) (D.Ok.cons (by unfold BB at this; unfold D.BB; omega) (ih h.tail))
theorem two_val (xs : List Nat) : D.val (two xs) = val xs := by
  induction xs with
  | nil => rfl
  | cons x xs ih =>
    simp only [two, D.val, val, ih]
    unfold D.BB BB
    omega
theorem two_snoc (xs : List Nat) (x : Nat) : two (xs ++ [x]) = two xs ++ [x % 65536, x / 65536] := by
  induction xs with
  | nil => rfl
  | cons y xs ih => simp only [List.cons_append, two, ih]
theorem take_snoc (xs : List Nat) (k : Nat) (h : k < xs.length) : xs.take (k + 1) = xs.take k ++ [lm xs k] := by
  rw [List.take_succ_eq_append_getElem h, lm_get _ _ h]

theorem make_next {w1 wr w' : World} {T : Nat} {dv v' : Value} {o : Obj} {acc : List Nat} {m n : Nat} (hT : T ≤ wr.heap.size) (hO : Own wr T dv acc) (hB : Below T w1 wr) (hown : w'.ownsRow T 108 1 v' (acc.length + 2) (ints acc ++ [.int .u32 (m : Nat), .int .u32 (n : Nat)]))
    (hg : ((wr.alloc o).drew).grownBy w' dv.ownBlock) : Own w' T v' (acc ++ [m, n]) ∧ Below T w1 w' := by
  refine ⟨?_, ?_⟩
  · unfold Own
    have : ints (acc ++ [m, n]) = ints acc ++ [.int .u32 (m : Nat), .int .u32 (n : Nat)] := by simp [ints]
    rw [this, List.length_append]; exact hown
  · exact (((hB.alloc hT o).drew).grown hg (by simp; omega) (fun k hk => (hO.lt k hk).1))

/-- both cells of a block written anew: all limbs lie as they lay -/
theorem keeps2 {W : World} {B : Nat} {t : TypeId} {x y : Value} (h : Box2 W B t x y) (hx : ∀ z, x ≠ .int .u32 z) (hy : ∀ z, y ≠ .int .u32 z) (x' y' : Value) : Spares W ((W.setCell ⟨B, 0, none⟩ x').setCell ⟨B, 1, none⟩ y') :=
  (Spares.set h.cell0 hx x').trans (Spares.set (h.set0 x').cell1 hy y')
theorem make_lo (x : Nat) (h : x < 4294967296) : (x : Int).tmod 65536 = ((x % 65536 : Nat) : Int) := by rw [Int.tmod_eq_emod_of_nonneg (by omega)]; omega
theorem make_hi (x : Nat) (h : x < 4294967296) : IntKind.u32.wrap ((x : Int) / 65536) = ((x / 65536 : Nat) : Int) := by rw [IntKind.wrap_u32]; omega

set_option maxRecDepth 100000 in
set_option maxHeartbeats 2000000 in
theorem rmake_any (s : Bool) (v : Value) (xs : List Nat) (w : World) (h : Nums w v xs) (hl : xs.length ≤ 1000000000) :
    Calls Try.prog 74 #[.bool s, v] w fun e w' => ∃ v', e = .returned v' ∧ RInt w' v' (sg s (val xs)) ∧ Below w.heap.size w w' := by
  obtain ⟨i0, hi, hz0, hz1, hz2⟩ := info_parts Try.info108
  have HN := hide h
  have HOK := hide h.ok
  obtain ⟨_, a, cap, rfl, hlc, hm, _⟩ := h
  unfold maxLen at hm
  go_enter Try.func74, Try.ntmps74
  go_wp2
  go_loopw [5, 6] (fun dv iv wr => ∃ k : Nat, k ≤ xs.length ∧ iv = .int .i64 k ∧ Own wr (w.heap.size + 1) dv (two (xs.take k)) ∧ Below (w.heap.size + 1) (w.alloc (.cells #[.bool false, .slice none 0 0] 35)) wr) (fun _ iv _ => xs.length - (intOf iv).toNat)
  case atStart => exact ⟨0, Nat.zero_le _, rfl, World.ownsRow_nil _ _ _ _, Below.refl _ _⟩
  case round =>
    obtain ⟨k, hk, rfl, hO, hbel⟩ := hrel
    have HO := hide hO
    have HBE := hide hbel
    clear hO hbel
    by_cases hlt : k < xs.length
    · have HNr := hide (HN.out.below ((below_alloc w _).trans (HBE.out.mono (Nat.le_succ _))))
      obtain ⟨blk, off, rfl, hck⟩ : ∃ blk off, a = some ⟨blk, off, none⟩ ∧ wr.cell? ⟨blk, off + k, none⟩ = some (.int .u32 (lm xs k : Nat)) := by
        obtain ⟨_, a', c', he, _, _, h3⟩ := HNr.out
        simp only [Value.slice.injEq] at he
        obtain ⟨rfl, _, rfl⟩ := he
        obtain ⟨b, off, rfl, hc⟩ := h3 (ne_nil hlt)
        exact ⟨b, off, rfl, hc k hlt⟩
      have hxk : lm xs k < 4294967296 := HOK.out.at k
      have HCW : Hid (∀ W, Below (w.heap.size + 1) (w.alloc (.cells #[.bool false, .slice none 0 0] 35)) W → W.cell? ⟨blk, off + k, none⟩ = some (.int .u32 (lm xs k : Nat))) := hide fun W hB => by
        obtain ⟨_, a', c', he, _, _, h3⟩ := HN.out
        simp only [Value.slice.injEq] at he
        obtain ⟨e1, _, rfl⟩ := he
        obtain ⟨b, off', e2, hc⟩ := h3 (ne_nil hlt)
        subst e2
        simp only [Option.some.injEq, Addr.mk.injEq, and_true] at e1
        obtain ⟨rfl, rfl⟩ := e1
        have h0 := hc k hlt
        have hb0 := World.block_lt_of_cell? w _ h0
        rw [hB.cell (by exact Nat.lt_succ_of_lt hb0), (below_alloc w _).cell hb0]
        exact h0
      have HTL : Hid ((two (xs.take k)).length ≤ 2000000000) := hide (by rw [two_length, List.length_take]; omega)
      clear hck HNr
      go_wp2_with fail
      refine wp_calm (fun w' => w'.cell? ⟨blk, off + k, none⟩ = some (.int .u32 (lm xs k : Nat))) (fun _ => true) 14 #[false, false, false, false, false, false, false, false, false, false, false, false, false, false] (by kernel_rfl) rfl rfl ?_
      have HF := hide (HCW.out _ HBE.out.drew)
      refine Calm.take (i := 0) (v := ?_) (a' := ?_) (l' := #[true, false, false, false, false, false, false, false, false, false, false, false, false, false]) (d := some 13) rfl (by kernel_rfl) (by kernel_rfl) (by kernel_rfl) (by kernel_rfl) (fun _ _ _ h => h) HF.out rfl ?_ rfl rfl ?_ ?_
      rotate_left
      · intro w' hF; go_simp; try rfl
      rotate_left
      · simp only [Act.put]; exact rfl
      refine Calm.take (i := 1) (v := ?_) (a' := ?_) (l' := #[true, true, false, false, false, false, false, false, false, false, false, false, false, false]) (d := some 14) rfl (by kernel_rfl) (by kernel_rfl) (by kernel_rfl) (by kernel_rfl) (fun _ _ _ h => h) HF.out rfl ?_ rfl rfl ?_ ?_
      rotate_left
      · intro w' hF; go_simp; try rfl
      rotate_left
      · simp only [Act.put]; exact rfl
      refine Calm.take (i := 2) (v := ?_) (a' := ?_) (l' := #[true, true, true, false, false, false, false, false, false, false, false, false, false, false]) (d := some 15) rfl (by kernel_rfl) (by kernel_rfl) (by kernel_rfl) (by kernel_rfl) (fun _ _ _ h => h) HF.out rfl ?_ rfl rfl ?_ ?_
      rotate_left
      · intro w' hF; go_simp; try rfl
      rotate_left
      · simp only [Act.put]; exact rfl
      refine Calm.take (i := 3) (v := ?_) (a' := ?_) (l' := #[true, true, true, true, false, false, false, false, false, false, false, false, false, false]) (d := some 16) rfl (by kernel_rfl) (by kernel_rfl) (by kernel_rfl) (by kernel_rfl) (fun _ _ _ h => h) HF.out rfl ?_ rfl rfl ?_ ?_
      rotate_left
      · intro w' hF; go_simp; try rfl
      rotate_left
      · simp only [Act.put]; exact rfl
      refine Calm.take (i := 4) (v := ?_) (a' := ?_) (l' := #[true, true, true, true, true, false, false, false, false, false, false, false, false, false]) (d := some 17) rfl (by kernel_rfl) (by kernel_rfl) (by kernel_rfl) (by kernel_rfl) (fun _ _ _ h => h) HF.out rfl ?_ rfl rfl ?_ ?_
      rotate_left
      · intro w' hF; go_simp; try rfl
      rotate_left
      · simp only [Act.put]; exact rfl
      refine Calm.take (i := 5) (v := ?_) (a' := ?_) (l' := #[true, true, true, true, true, true, false, false, false, false, false, false, false, false]) (d := some 18) rfl (by kernel_rfl) (by kernel_rfl) (by kernel_rfl) (by kernel_rfl) (fun _ _ _ h => h) HF.out rfl ?_ rfl rfl ?_ ?_
      rotate_left
      · intro w' hF; go_simp; try rfl
      rotate_left
      · simp only [Act.put]; exact rfl
      refine Calm.take (i := 6) (v := ?_) (a' := ?_) (l' := #[true, true, true, true, true, true, true, false, false, false, false, false, false, false]) (d := some 19) rfl (by kernel_rfl) (by kernel_rfl) (by kernel_rfl) (by kernel_rfl) (fun _ _ _ h => h) HF.out rfl ?_ rfl rfl ?_ ?_
      rotate_left
      · intro w' hF; go_simp; try rfl
      rotate_left
      · simp only [Act.put]; exact rfl
      refine Calm.take (i := 7) (v := ?_) (a' := ?_) (l' := #[true, true, true, true, true, true, true, true, false, false, false, false, false, false]) (d := some 20) rfl (by kernel_rfl) (by kernel_rfl) (by kernel_rfl) (by kernel_rfl) (fun _ _ _ h => h) HF.out rfl ?_ rfl rfl ?_ ?_
      rotate_left
      · intro w' hF; go_simp; try rfl
      rotate_left
      · simp only [Act.put]; exact rfl
      refine Calm.take (i := 8) (v := ?_) (a' := ?_) (l' := #[true, true, true, true, true, true, true, true, true, false, false, false, false, false]) (d := some 21) rfl (by kernel_rfl) (by kernel_rfl) (by kernel_rfl) (by kernel_rfl) (fun _ _ _ h => h) HF.out rfl ?_ rfl rfl ?_ ?_
      rotate_left
      · intro w' hF; go_simp; try rfl
      rotate_left
      · simp only [Act.put]; exact rfl
      refine Calm.take (i := 9) (v := ?_) (a' := ?_) (l' := #[true, true, true, true, true, true, true, true, true, true, false, false, false, false]) (d := some 22) rfl (by kernel_rfl) (by kernel_rfl) (by kernel_rfl) (by kernel_rfl) (fun _ _ _ h => h) HF.out rfl ?_ rfl rfl ?_ ?_
      rotate_left
      · intro w' hF; go_simp; try rfl
      rotate_left
      · simp only [Act.put]; exact rfl
      refine Calm.take (i := 10) (v := ?_) (a' := ?_) (l' := #[true, true, true, true, true, true, true, true, true, true, true, false, false, false]) (d := some 23) rfl (by kernel_rfl) (by kernel_rfl) (by kernel_rfl) (by kernel_rfl) (fun _ _ _ h => h) HF.out rfl ?_ rfl rfl ?_ ?_
      rotate_left
      · intro w' hF; go_simp; try rfl
      rotate_left
      · simp only [Act.put]; exact rfl
      refine Calm.one (i := 11) (l' := #[true, true, true, true, true, true, true, true, true, true, true, true, false, false]) (by kernel_rfl) rfl rfl rfl fun K hK => ?_
      go_simp
      refine hK _ _ (fun _ => HCW.out _ (HBE.out.alloc (by have := HBE.out.size; simpa using this) _).drew) ?_
      clear hK K
      rw [make_lo _ hxk, make_hi _ hxk]
      refine Calm.one (i := 12) (l' := #[true, true, true, true, true, true, true, true, true, true, true, true, true, false]) (by kernel_rfl) rfl rfl rfl fun K hK => ?_
      refine oper_append_own (.tmp 13) (.tmp 24) 29 rfl (w.heap.size + 1) 108 i0 (.int .u32 0) 1 4 Try.underlying29 hi hz0 hz1 hz2 rfl (by decide) _ _ _ rfl (World.ownsRow.alloc HO.out _) ⟨wr.heap.size, 0, none⟩ 2 2 [.int .u32 ((lm xs k % 65536 : Nat) : Int), .int .u32 ((lm xs k / 65536 : Nat) : Int)] rfl rfl ?_ ?_ ?_ ?_ ?_ ?_
      · intro i u hi'
        match i, hi' with
        | 0, hi' => simp at hi'; subst hi'; simp [Addr.add]
        | 1, hi' => simp at hi'; subst hi'; simp [Addr.add]
      · intro u hu; simp at hu; rcases hu with rfl | rfl <;> rfl
      · have := HTL.out; unfold maxLen; omega
      · have := HTL.out; omega
      · have := HBE.out.size; simp at this ⊢; omega
      intro v' w2 hown hgrow
      obtain ⟨hO2, hB2⟩ := make_next (by have := HBE.out.size; simpa using this) HO.out HBE.out hown hgrow
      have HO2 := hide hO2
      have HB2 := hide hB2
      clear hown hgrow hO2 hB2
      refine hK _ _ (fun _ => HCW.out _ HB2.out) ?_
      clear hK K
      simp only [Act.put]
      have HF := hide (HCW.out _ HB2.out)
      refine Calm.take (i := 13) (v := ?_) (a' := ?_) (l' := #[true, true, true, true, true, true, true, true, true, true, true, true, true, true]) (d := some 5) rfl (by kernel_rfl) (by kernel_rfl) (by kernel_rfl) (by kernel_rfl) (fun _ _ _ h => h) HF.out rfl ?_ rfl rfl ?_ ?_
      rotate_left
      · intro w' hF; go_simp; try rfl
      rotate_left
      · simp only [Act.put]; exact rfl
      refine Calm.done (by kernel_rfl) ?_
      go_wp2
      go_roundw
      case rel => exact ⟨k + 1, by omega, by go_num, by rw [take_snoc xs k hlt, two_snoc]; exact HO2.out, HB2.out⟩
      case measure => simp [intOf]; omega
    · have e : k = xs.length := by omega
      subst e
      have HR := hide ((Box2.new w _ _ _).below HBE.out (Nat.lt_succ_self _))
      have HO1 := hide HO.out
      rw [List.take_length] at HO1
      have HNd := hide (HO1.out.nums (dok (two_ok HOK.out)))
      have HB1 := hide ((below_alloc w _).trans (HBE.out.mono (Nat.le_succ _)))
      clear HO HBE
      go_wp2_with fail
      refine (rnorm2_any s _ (two xs) _ HNd.out (two_ok HOK.out)).mono ?_
      rintro e w2 ⟨v2, rfl, hr2, hb2⟩
      rw [two_val] at hr2
      obtain ⟨b', n', a', c', rfl, hn', he, h0⟩ := hr2
      replace HR := hide (HR.out.step hb2)
      replace HB1 := hide (HB1.out.trans (hb2.mono HB1.out.size))
      have hc0 := HR.out.cell0
      have hc1 := HR.out.cell1
      have hf0 := HR.out.free 0
      have hf1 := HR.out.free 1
      clear hb2
      go_wp2
      refine ret_ref rfl w.heap.size _ _ _ _ rfl ((HR.out.set0 _).set1 _) rfl ?_
      exact ⟨_, rfl, ⟨b', n', a', c', rfl, keeps2 HR.out (by simp) (by simp) _ _ _ _ hn', he, h0⟩, (HB1.out.setCell (p := ⟨w.heap.size, 0, none⟩) (Nat.le_refl _) _).setCell (p := ⟨w.heap.size, 1, none⟩) (Nat.le_refl _) _⟩
end Go.Proofs.Ytapodkjmhenceaa
