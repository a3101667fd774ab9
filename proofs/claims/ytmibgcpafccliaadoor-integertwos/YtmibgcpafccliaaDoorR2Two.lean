/- The document's answers for layer 2 (swageref02): Twos and Power. -/
import Derived.Test.YtmibgcpafccliaaDoorITwo
import Derived.Test.YtmibgcpafccliaaDoorR2Bits
namespace Go.Proofs.YtmibgcpafccliaaDoor
open Go.RowKit

theorem twos_dlen {n K : Nat} (h : IsTwos n K) : K / 16 < (D.lim n).length := by
  obtain ⟨m, hm⟩ := h
  have h1 : 2 ^ K ≤ n := by rw [hm]; exact Nat.le_mul_of_pos_right _ (by omega)
  have h2 : n < D.BB ^ (D.lim n).length := by have := D.val_lt (D.ok_lim n); rwa [D.val_lim] at this
  rw [show D.BB = 2 ^ 16 from rfl, ← Nat.pow_mul] at h2
  have := (Nat.pow_lt_pow_iff_right (a := 2) (by decide)).1 (Nat.lt_of_le_of_lt h1 h2)
  omega
theorem twos_digit {n K : Nat} (h : IsTwos n K) : n / 2 ^ K % 2 = 1 := by
  have := twos_bit h
  unfold bitB at this
  simpa using this
theorem twos_digit0 {n K j : Nat} (h : IsTwos n K) (hj : j < K) : n / 2 ^ j % 2 = 0 := by
  have := twos_below h hj
  unfold bitB at this
  have h2 : ¬ n / 2 ^ j % 2 = 1 := by simpa using this
  omega

set_option maxRecDepth 100000 in
set_option maxHeartbeats 2000000 in
theorem rtwoz_any (v : Value) (z : Int) (w : World) (h : RInt w v z) (hlen : (D.lim z.natAbs).length ≤ 1000000) :
    Calls Tryd.prog 28 #[v] w fun e w' => ∃ t : Int, e = .returned (.int .i64 t) ∧ ITw z t ∧ Below w.heap.size w w' := by
  obtain ⟨b, n, a, c, rfl, hn, rfl, h0⟩ := h
  rw [sg_abs] at hlen
  have P0 := hide (Box2.new w 46 (.bool b) (.slice a (D.lim n).length c))
  have HB := hide (below_alloc w (.cells #[.bool b, .slice a (D.lim n).length c] 46))
  have HN := hide (hn.below HB.out)
  clear hn h0
  by_cases hz : n = 0
  · subst hz
    simp only [D.lim_zero, List.length_nil] at *
    have p1 := P0.out.cell1
    go_enter Tryd.func28, Tryd.ntmps28
    go_wp2
    go_ret
    exact ⟨-1, rfl, .inl ⟨sg_zero _, rfl⟩, HB.out⟩
  · have hp' : 0 < (D.lim n).length := by rw [D.lim_pos (Nat.pos_of_ne_zero hz)]; simp
    have hlz : (((D.lim n).length : Int) == 0) = false := by rw [beq_eq_false_iff_ne]; omega
    obtain ⟨K, hK⟩ := exists_twos n (Nat.pos_of_ne_zero hz)
    have HK := hide hK
    have hKL := twos_dlen hK
    have HZ := hide hz
    clear hK hz
    have p1 := P0.out.cell1
    go_enter Tryd.func28, Tryd.ntmps28
    go_wp2
    go_loop [3] (fun iv => ∃ j : Nat, j ≤ K ∧ iv = .int .i64 j) (fun iv => K - (intOf iv).toNat)
    case atStart => exact ⟨0, Nat.zero_le _, rfl⟩
    case round =>
      obtain ⟨j, hj, rfl⟩ := hrel
      go_wp2_with fail
      refine (rbit2_any _ n j _ HN.out (by omega) (by omega)).mono ?_
      rintro e w2 ⟨rfl, rfl⟩
      by_cases hjK : j = K
      · subst hjK
        rw [twos_digit HK.out]
        go_wp2
        go_ret
        exact ⟨j, rfl, .inr ⟨fun e => HZ.out (sg_nil.1 e), j, rfl, by rw [sg_abs]; exact HK.out, by omega⟩, HB.out⟩
      · rw [twos_digit0 HK.out (by omega)]
        go_wp2
        go_round
        case rel => exact ⟨j + 1, by omega, by go_num⟩
        case measure => simp [intOf]; omega

theorem power_val (k s : Nat) : D.val ((List.replicate (k + 1) 0).set k (2 ^ s)) = 2 ^ (16 * k + s) := by
  rw [List.replicate_succ', List.set_append_right _ _ (by simp), List.length_replicate, Nat.sub_self, List.set_cons_zero, D.val_append, D.val_replicate, List.length_replicate, show D.BB = 2 ^ 16 from rfl, ← Nat.pow_mul, Nat.pow_add]
  simp [D.val]
set_option maxRecDepth 100000 in
set_option maxHeartbeats 2000000 in
theorem rpower_any (k : Nat) (w : World) (hk : k ≤ 65536) :
    Calls Tryd.prog 37 #[.int .i64 k] w fun e w' => ∃ v', e = .returned v' ∧ RInt w' v' (((2 ^ k : Nat)) : Int) ∧ Below w.heap.size w w' := by
  obtain ⟨i0, hi, hz0, hz1, hz2⟩ := info_parts Tryd.info32
  have HR := hide (Box2.new w 46 (.bool false) (.slice none 0 0))
  obtain ⟨m, hm⟩ : ∃ m, m = k / 16 := ⟨_, rfl⟩
  obtain ⟨s, hs⟩ : ∃ s, s = k % 16 := ⟨_, rfl⟩
  obtain ⟨P, hP⟩ : ∃ P, P = 2 ^ s := ⟨_, rfl⟩
  have HV : Hid (D.val ((List.replicate (m + 1) 0).set m P) = 2 ^ k) := hide (by rw [hP, power_val]; congr 1; omega)
  have hPL : P < 65536 := by rw [hP, hs]; exact Nat.lt_of_lt_of_le (Nat.pow_lt_pow_right (a := 2) (by decide) (show k % 16 < 16 by omega)) (by decide)
  have hW2 : IntKind.i64.wrap ((k : Int) / 16) = (m : Int) := by
    rw [show (k : Int) / 16 = (m : Int) from by omega, IntKind.wrap_i64]; omega
  have hD : (k : Int) / 16 = (m : Int) := by omega
  have hT : (k : Int).tmod 16 = (s : Int) := by rw [hs]; exact (Int.ofNat_tmod k 16).symm
  have hM : (k : Int) % 16 = (s : Int) := by omega
  have hS : min s 32 = s := by omega
  have hW3 : IntKind.u32.wrap ((2 : Int) ^ s) = (P : Int) := by
    rw [show (2 : Int) ^ s = ((2 ^ s : Nat) : Int) from by rw [Int.natCast_pow]; rfl, ← hP, IntKind.wrap_u32]; omega
  have hW4 : (2 : Int) ^ s % 4294967296 = (P : Int) := by
    rw [show (2 : Int) ^ s = ((2 ^ s : Nat) : Int) from by rw [Int.natCast_pow]; rfl, ← hP]; omega
  have hm1 : m ≤ 4096 := by omega
  clear hP hm hs
  go_enter Tryd.func37, Tryd.ntmps37
  have HTS : Hid (w.heap.size + 1 = (w.alloc (.cells #[.bool false, .slice none 0 0] 46)).heap.size) := hide (by simp)
  go_wp2_with (at_make; refine wpList_make_full _ rfl _ _ 22 rfl (w.heap.size + 1) 32 i0 (.int .u32 0) 1 Tryd.underlying22 hi hz0 hz1 _ _ _ _ (m + 1) rfl rfl ?_ ?_ ?_ ?_ ?_ ?_)
  · omega
  · omega
  · rw [hz2]; omega
  · unfold maxLen; omega
  · exact Nat.le_of_eq HTS.out
  intro w1 hown hgrow
  have HB1 : Hid (Below (w.heap.size + 1) (w.alloc (.cells #[.bool false, .slice none 0 0] 46)) w1) := hide ((Below.refl _ _).grown hgrow (Nat.le_of_eq HTS.out) (fun k hk => by simp at hk))
  have HR1 : Hid (RowC w1 (w.heap.size + 1) (w.heap.size + 1) (m + 1) (m + 1) (List.replicate (m + 1) 0)) := hide (by rw [made_fil] at hown; unfold RowC; simpa [fil] using hown)
  clear hown hgrow
  have hfr := HR1.out.free m
  have hcl := HR1.out.cell (by simp) m (by omega)
  go_upto_region 3 with fail
  have HR2 := hide (HR1.out.set m P)
  have HBX := hide ((HR.out.below HB1.out (Nat.lt_succ_self _)).set_ne (C := w.heap.size + 1) (o := m) (by omega) (.int .u32 (P : Nat)))
  have HB2 := hide (((below_alloc w _).trans (HB1.out.mono (Nat.le_succ _))).setCell (p := ⟨w.heap.size + 1, m, none⟩) (Nat.le_succ _) (.int .u32 (P : Nat)))
  have hok : D.Ok ((List.replicate (m + 1) 0).set m P) := fun x hx => by
    rcases List.mem_or_eq_of_mem_set hx with h | h
    · rw [List.eq_of_mem_replicate h]; decide
    · rw [h]; exact hPL
  have HOK := hide hok
  have HN := hide (HR2.out.nums (by simp) (dok hok))
  clear hok HR1 HR HB1 HR2 hfr hcl
  generalize w1.setCell ⟨w.heap.size + 1, m, none⟩ (.int .u32 (P : Nat)) = w2 at *
  go_wp2_with fail
  refine (rnorm2_any false _ ((List.replicate (m + 1) 0).set m P) _ HN.out HOK.out).mono ?_
  rintro e w3 ⟨v2, rfl, hr2, hb2⟩
  rw [HV.out] at hr2
  obtain ⟨b', n', a', c', rfl, hn', he, h0⟩ := hr2
  replace HBX := hide (HBX.out.step hb2)
  replace HB2 := hide (HB2.out.trans (hb2.mono HB2.out.size))
  have IhO := hide (And.intro hn' (And.intro he h0))
  have hc0 := HBX.out.cell0
  have hc1 := HBX.out.cell1
  have hf0 := HBX.out.free 0
  have hf1 := HBX.out.free 1
  clear hb2 hn' he h0
  go_wp2
  refine ret_ref rfl w.heap.size _ _ _ _ rfl ((HBX.out.set0 _).set1 _) rfl ?_
  exact ⟨_, rfl, ⟨b', n', a', c', rfl, keeps2 HBX.out (by simp) (by simp) _ _ _ _ IhO.out.1, IhO.out.2.1, IhO.out.2.2⟩, (HB2.out.setCell (p := ⟨w.heap.size, 0, none⟩) (Nat.le_refl _) _).setCell (p := ⟨w.heap.size, 1, none⟩) (Nat.le_refl _) _⟩
end Go.Proofs.YtmibgcpafccliaaDoor
