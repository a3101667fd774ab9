/- swagelaw04.RowReads answers true at all texts, and turns nothing that was there. -/
import Derived.Test.YtdafdfgkfkanjaaDoorWRl
import Derived.Test.YtdafdfgkfkanjaaDoorWLive
import Derived.Test.YtdafdfgkfkanjaaDoorWOne
import Derived.RegionTactic
namespace Go.Proofs.YtdafdfgkfkanjaaDoor
open Go.RowKit Go.Shelf

theorem IRd.szI {s : ByteArray} {z : Int} {a b : Nat} (h : IRd s z a b) : SzI 65536 z := by
  have h0 : SzI 65536 0 := SzI.zero.mono (by decide)
  rcases h with ⟨_, rfl, _, _⟩ | ⟨_, _, _, rfl, _, _⟩ | ⟨hs, _, xs, a', b', hr, ⟨_, rfl, _, _⟩ | ⟨_, rfl, _, _⟩⟩
  · exact h0
  · exact h0
  · exact h0
  · have hc := cutP_size s 45
    rcases hr with ⟨_, rfl, _, _⟩ | ⟨_, rfl, _, _⟩ | ⟨_, i, _, _, _, rfl, _, _⟩ | ⟨_, _, hg, rfl, _, _⟩
    · exact SzI.of Ok.nil (Nat.zero_le _)
    · exact SzI.of Ok.nil (Nat.zero_le _)
    · exact SzI.of Ok.nil (Nat.zero_le _)
    · exact SzI.of (ok_lim _) (Nat.le_trans (nv_len _ _ _ hg (Nat.le_refl _)) (by omega))
theorem RowZ.sz {t : ByteArray} {zs : List Int} (h : RowZ t zs) (i : Nat) : SzI 65536 (zs.getD i 0) := by
  have h0 : SzI 65536 0 := SzI.zero.mono (by decide)
  rcases h with ⟨_, rfl⟩ | ⟨_, h⟩
  · exact h0
  · rcases Nat.lt_or_ge i zs.length with hi | hi
    · exact (h.2 i (by rw [← h.1]; exact hi)).szI
    · rw [List.getD_eq_getElem?_getD, List.getElem?_eq_none hi]; exact h0
theorem RowZ.few {t : ByteArray} {zs : List Int} (h : RowZ t zs) (ht : t.size ≤ 400) : zs.length ≤ 401 := by
  rcases h with ⟨_, rfl⟩ | ⟨_, h⟩
  · simp
  · rw [h.1]; have := spl_few 32 t; omega

set_option maxRecDepth 100000 in
set_option maxHeartbeats 4000000 in
theorem rreads_walk (s : ByteArray) (w : World) (hs : s.size ≤ 9223372036854775807) :
    Calls Tryd.prog 4 #[.string s] w fun e w' => e = .returned (.bool true) ∧ Below w.heap.size w w' := by
  go_enter Tryd.func4, Tryd.ntmps4
  go_wp2_with fail
  refine (rlive_any _).mono ?_
  rintro e w1 ⟨rfl, hb⟩
  have HB := hide hb
  clear hb
  by_cases hl : 400 < s.size
  · go_wp2
    go_ret
    exact ⟨rfl, HB.out⟩
  · have hl4 : s.size ≤ 400 := by omega
    go_wp2_with fail
    refine (rread_any s _ (by omega)).mono ?_
    rintro e w2 ⟨v, a, b, rfl, hr, hb⟩
    have RR := hide hr
    replace HB := hide (HB.out.trans (hb.mono HB.out.size))
    clear hr hb
    go_upto_region 6 with fail
    have b1 := below_alloc w2 (.cells #[.int .i64 (a : Nat), .int .i64 (b : Nat)] 33)
    have SX := hide (Box2.new w2 33 (.int .i64 (a : Nat)) (.int .i64 (b : Nat)))
    have H2 := hide b1
    replace HB := hide (HB.out.trans (b1.mono HB.out.size))
    clear b1
    generalize w2.alloc (.cells #[.int .i64 (a : Nat), .int .i64 (b : Nat)] 33) = w3 at *
    obtain ⟨X, hX⟩ : ∃ X, X = w2.heap.size := ⟨_, rfl⟩
    rw [← hX] at SX
    rw [← hX]
    clear hX
    go_wp2_with fail
    refine (rfread_any s _ (by omega)).mono ?_
    rintro e w4 ⟨u, p, zs, rfl, hf, hi, hb⟩
    have LK := hide (reads_link hl4 RR.out hf)
    have RI := hide hi
    replace H2 := hide (H2.out.trans (hb.mono H2.out.size))
    replace HB := hide (HB.out.trans (hb.mono HB.out.size))
    replace SX := hide (SX.out.step hb)
    clear hf hi hb
    have d0 := SX.out.cell0
    have d1 := SX.out.cell1
    rcases LK.out with ⟨hp0, rfl, rfl, hbp⟩ | ⟨rfl, rfl, rfl, hint, htx, t, ht, hz⟩
    · rw [hbp] at d1
      clear LK RI
      go_wp2
      go_ret
      exact ⟨rfl, HB.out⟩
    · have II := hide (hint.below H2.out)
      have RJ := hide (RI.out rfl)
      have TX := hide htx
      have SZ := hide hz.sz
      have FW := hide (hz.few ht)
      clear LK RI hint htx hz d0 d1
      go_wp2_with fail
      refine (isrow_yes _ _ zs _ II.out RJ.out (fun i => SzI.len (SZ.out i) (by decide))).mono ?_
      rintro e w5 ⟨rfl, hb⟩
      replace HB := hide (HB.out.trans (hb.mono HB.out.size))
      replace SX := hide (SX.out.step hb)
      replace II := hide (II.out.below hb)
      clear hb
      have d0 := SX.out.cell0
      have d1 := SX.out.cell1
      go_wp2_with fail
      refine (rtext_any _ zs _ II.out (by have := FW.out; omega) (fun i => SzI.len (SZ.out i) (by decide)) (by have h1 := congrArg List.length (wtxt_bl zs); rw [bl_len, TX.out] at h1; simp only [List.length_cons, List.length_append] at h1; omega)).mono ?_
      rintro e w6 ⟨rfl, hb⟩
      replace HB := hide (HB.out.trans (hb.mono HB.out.size))
      rw [TX.out]
      clear hb d0 d1
      go_wp2
      go_ret
      exact ⟨rfl, HB.out⟩
end Go.Proofs.YtdafdfgkfkanjaaDoor
