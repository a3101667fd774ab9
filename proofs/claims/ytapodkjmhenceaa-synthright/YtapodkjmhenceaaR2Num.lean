/- The document's answers for layer 2 (swageref02): Of. -/
import Derived.Test.YtapodkjmhenceaaR2Of
namespace Go.Proofs.Ytapodkjmhenceaa
open Go.RowKit

/-- a number's digits so far, and what is left of it -/
structure OfAt (A u : Nat) (acc : List Nat) : Prop where
  ok : D.Ok acc
  len : acc.length ≤ 4
  lt : u < 65536 ^ (4 - acc.length)
  sum : D.val acc + 65536 ^ acc.length * u = A
theorem OfAt.start (A : Nat) (h : A < 18446744073709551616) : OfAt A A [] := ⟨D.Ok.nil, by simp, by simpa using h, by simp [D.val]⟩
theorem OfAt.less {A u : Nat} {acc : List Nat} (h : OfAt A u acc) (hu : 0 < u) : acc.length < 4 := by
  rcases Nat.lt_or_ge acc.length 4 with k | k
  · exact k
  · have := h.lt; rw [show 4 - acc.length = 0 from by omega] at this; simp at this; omega
theorem OfAt.step {A u : Nat} {acc : List Nat} (h : OfAt A u acc) (hu : 0 < u) : OfAt A (u / 65536) (acc ++ [u % 65536]) := by
  have hl := h.less hu
  refine ⟨h.ok.append (D.Ok.cons (Nat.mod_lt _ (by decide)) D.Ok.nil), by simp; omega, ?_, ?_⟩
  · have := h.lt
    rw [List.length_append, List.length_singleton, Nat.div_lt_iff_lt_mul (by decide), ← Nat.pow_succ, show (4 - (acc.length + 1)).succ = 4 - acc.length from by omega]
    exact this
  · rw [D.val_append, ← h.sum, List.length_append, List.length_singleton, Nat.pow_succ]
    simp only [D.val, Nat.mul_zero, Nat.add_zero]
    show D.val acc + 65536 ^ acc.length * (u % 65536) + 65536 ^ acc.length * 65536 * (u / 65536) = _
    rw [Nat.mul_assoc, Nat.add_assoc, ← Nat.mul_add, Nat.mod_add_div]

set_option maxRecDepth 100000 in
set_option maxHeartbeats 2000000 in
theorem rof_any (z : Int) (w : World) (hlo : -9223372036854775808 ≤ z) (hhi : z ≤ 9223372036854775807) :
    Calls Try.prog 51 #[.int .i64 z] w fun e w' => ∃ v, e = .returned v ∧ RInt w' v z ∧ Below w.heap.size w w' := by
  obtain ⟨i0, hi, hz0, hz1, hz2⟩ := info_parts Try.info108
  have HL := hide hlo
  have HH := hide hhi
  obtain ⟨A, hA⟩ : ∃ A, A = z.natAbs := ⟨_, rfl⟩
  have HA := hide hA
  have HAB : Hid (A < 18446744073709551616) := hide (by omega)
  clear hA
  by_cases neg : z < 0
  · have HNG := hide neg
    have huA : IntKind.u64.wrap (-IntKind.u64.wrap z) = (A : Int) := by rw [HA.out, IntKind.wrap_u64, IntKind.wrap_u64]; omega
    go_enter Try.func51, Try.ntmps51
    go_wp2
    clear huA
    go_loopw [3, 4] (fun uv dv wr => ∃ (u : Nat) (acc : List Nat), uv = .int .u64 u ∧ u < 18446744073709551616 ∧ OfAt A u acc ∧ Own wr (w.heap.size + 1) dv acc ∧ Below (w.heap.size + 1) (w.alloc (.cells #[.bool false, .slice none 0 0] 35)) wr) (fun uv _ _ => (intOf uv).toNat)
    case atStart => exact ⟨A, [], rfl, HAB.out, OfAt.start A HAB.out, World.ownsRow_nil _ _ _ _, Below.refl _ _⟩
    case round =>
      obtain ⟨u, acc, rfl, hub, hat, hO, hbel⟩ := hrel
      have HAT := hide hat
      have HO := hide hO
      have HBE := hide hbel
      clear hat hO hbel
      by_cases hu : 0 < u
      · have hln := HAT.out.less hu
        have hbs := HBE.out.size
        rw [World.size_alloc] at hbs
        have huI : (u : Int) < 18446744073709551616 := by omega
        have HUB := hide hub
        clear hub
        go_wp2_with (at_builtin; refine wpList_append_own _ rfl _ _ 29 rfl (w.heap.size + 1) 108 i0 (.int .u32 0) 1 4 Try.underlying29 hi hz0 hz1 hz2 rfl (by decide) _ _ _ rfl (World.ownsRow.alloc HO.out _) ⟨_, 0, none⟩ 1 1 [.int .u32 (((u : Int) % 65536))] rfl rfl ?_ ?_ ?_ ?_ ?_ ?_)
        · intro i u hi'
          match i, hi' with
          | 0, hi' => simp at hi'; subst hi'; simp [Addr.add]
        · intro u hu; simp at hu; subst hu; rfl
        · unfold maxLen; omega
        · omega
        · simp; omega
        · intro v6 w6 hown6 hgrow6 _
          obtain ⟨hO6, hB6⟩ := own_step (n := u % 65536) (by omega) HO.out hown6 hgrow6 HBE.out hbs (Nat.le_refl _)
          have HO6 := hide hO6
          have HB6 := hide hB6
          clear hown6 hgrow6 hO6 hB6
          go_wp2
          go_roundw
          case rel => exact ⟨u / 65536, _, congrArg (Value.int .u64) (by omega), by have := HUB.out; omega, HAT.out.step hu, HO6.out, HB6.out⟩
          case measure => simp [intOf]; omega
      · have e : u = 0 := by omega
        subst e
        have HR := hide ((Box2.new w _ _ _).below HBE.out (Nat.lt_succ_self _))
        have HNd := hide (HO.out.nums (dok HAT.out.ok))
        have HB1 := hide ((below_alloc w _).trans (HBE.out.mono (Nat.le_succ _)))
        have HV : Hid (D.val acc = A) := hide (by have := HAT.out.sum; simpa using this)
        go_wp2_with fail
        refine (rnorm2_any true _ acc _ HNd.out HAT.out.ok).mono ?_
        rintro e w2 ⟨v2, rfl, hr2, hb2⟩
        rw [HV.out] at hr2
        obtain ⟨b', n', a', c', rfl, hn', he, h0⟩ := hr2
        replace HR := hide (HR.out.step hb2)
        replace HB1 := hide (HB1.out.trans (hb2.mono HB1.out.size))
        have hc0 := HR.out.cell0
        have hc1 := HR.out.cell1
        have hf0 := HR.out.free 0
        have hf1 := HR.out.free 1
        clear hb2
        go_wp2
        refine ret_ref rfl w.heap.size _ _ _ _ rfl ((HR.out.set0 _).set1 _) rfl ?_
        exact ⟨_, rfl, ⟨b', n', a', c', rfl, keeps2 HR.out (by simp) (by simp) _ _ _ _ hn', by rw [← he]; have := HA.out; have := HNG.out; rw [sg_true]; omega, h0⟩, (HB1.out.setCell (p := ⟨w.heap.size, 0, none⟩) (Nat.le_refl _) _).setCell (p := ⟨w.heap.size, 1, none⟩) (Nat.le_refl _) _⟩
  · have HNG := hide neg
    have huA : z = (A : Int) := by have := HA.out; omega
    subst huA
    go_enter Try.func51, Try.ntmps51
    go_wp2
    go_loopw [3, 4] (fun uv dv wr => ∃ (u : Nat) (acc : List Nat), uv = .int .u64 u ∧ u < 18446744073709551616 ∧ OfAt A u acc ∧ Own wr (w.heap.size + 1) dv acc ∧ Below (w.heap.size + 1) (w.alloc (.cells #[.bool false, .slice none 0 0] 35)) wr) (fun uv _ _ => (intOf uv).toNat)
    case atStart => exact ⟨A, [], rfl, HAB.out, OfAt.start A HAB.out, World.ownsRow_nil _ _ _ _, Below.refl _ _⟩
    case round =>
      obtain ⟨u, acc, rfl, hub, hat, hO, hbel⟩ := hrel
      have HAT := hide hat
      have HO := hide hO
      have HBE := hide hbel
      clear hat hO hbel
      by_cases hu : 0 < u
      · have hln := HAT.out.less hu
        have hbs := HBE.out.size
        rw [World.size_alloc] at hbs
        have huI : (u : Int) < 18446744073709551616 := by omega
        have HUB := hide hub
        clear hub
        go_wp2_with (at_builtin; refine wpList_append_own _ rfl _ _ 29 rfl (w.heap.size + 1) 108 i0 (.int .u32 0) 1 4 Try.underlying29 hi hz0 hz1 hz2 rfl (by decide) _ _ _ rfl (World.ownsRow.alloc HO.out _) ⟨_, 0, none⟩ 1 1 [.int .u32 (((u : Int) % 65536))] rfl rfl ?_ ?_ ?_ ?_ ?_ ?_)
        · intro i u hi'
          match i, hi' with
          | 0, hi' => simp at hi'; subst hi'; simp [Addr.add]
        · intro u hu; simp at hu; subst hu; rfl
        · unfold maxLen; omega
        · omega
        · simp; omega
        · intro v6 w6 hown6 hgrow6 _
          obtain ⟨hO6, hB6⟩ := own_step (n := u % 65536) (by omega) HO.out hown6 hgrow6 HBE.out hbs (Nat.le_refl _)
          have HO6 := hide hO6
          have HB6 := hide hB6
          clear hown6 hgrow6 hO6 hB6
          go_wp2
          go_roundw
          case rel => exact ⟨u / 65536, _, congrArg (Value.int .u64) (by omega), by have := HUB.out; omega, HAT.out.step hu, HO6.out, HB6.out⟩
          case measure => simp [intOf]; omega
      · have e : u = 0 := by omega
        subst e
        have HR := hide ((Box2.new w _ _ _).below HBE.out (Nat.lt_succ_self _))
        have HNd := hide (HO.out.nums (dok HAT.out.ok))
        have HB1 := hide ((below_alloc w _).trans (HBE.out.mono (Nat.le_succ _)))
        have HV : Hid (D.val acc = A) := hide (by have := HAT.out.sum; simpa using this)
        go_wp2_with fail
        refine (rnorm2_any false _ acc _ HNd.out HAT.out.ok).mono ?_
        rintro e w2 ⟨v2, rfl, hr2, hb2⟩
        rw [HV.out] at hr2
        obtain ⟨b', n', a', c', rfl, hn', he, h0⟩ := hr2
        replace HR := hide (HR.out.step hb2)
        replace HB1 := hide (HB1.out.trans (hb2.mono HB1.out.size))
        have hc0 := HR.out.cell0
        have hc1 := HR.out.cell1
        have hf0 := HR.out.free 0
        have hf1 := HR.out.free 1
        clear hb2
        go_wp2
        refine ret_ref rfl w.heap.size _ _ _ _ rfl ((HR.out.set0 _).set1 _) rfl ?_
        exact ⟨_, rfl, ⟨b', n', a', c', rfl, keeps2 HR.out (by simp) (by simp) _ _ _ _ hn', by rw [← he, sg_false], h0⟩, (HB1.out.setCell (p := ⟨w.heap.size, 0, none⟩) (Nat.le_refl _) _).setCell (p := ⟨w.heap.size, 1, none⟩) (Nat.le_refl _) _⟩
end Go.Proofs.Ytapodkjmhenceaa
