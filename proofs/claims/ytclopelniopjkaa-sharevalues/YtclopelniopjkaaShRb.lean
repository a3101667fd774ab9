/- swageref14.Begin: the state ahead of a program's first instruction. -/
import Derived.Test.YtclopelniopjkaaShRf
namespace Go.Proofs.Ytclopelniopjkaa
open Go.RowKit

def hkL (ins : Int) (k : Nat) : List Int := (List.range k).map (fun j : Nat => min (j : Int) ins)
theorem hkL_succ (ins : Int) (k : Nat) : hkL ins (k + 1) = hkL ins k ++ [min (k : Int) ins] := by unfold hkL; rw [List.range_succ, List.map_append]; rfl
theorem hkL_len (ins : Int) (k : Nat) : (hkL ins k).length = k := by simp [hkL]
set_option maxRecDepth 100000 in
set_option maxHeartbeats 2000000 in
theorem rbegin_any (v : Value) (p : Pg) (w : World) (h : PgAt w v p) (hr : rightB p = true) :
    Calls Try.prog 10 #[v] w fun e w' => (∃ S vh vk, e = .returned (.pointer (some ⟨S, 0, none⟩)) ∧ StAt w' w.heap.size S vh vk (begS p)) ∧ Below w.heap.size w w' := by
  obtain ⟨ins, regs, code, outs⟩ := p
  obtain ⟨p1, p2, p3, _⟩ := right_parts hr
  dsimp only at p1 p2 p3
  obtain ⟨n, rfl⟩ := Int.eq_ofNat_of_zero_le (show 0 ≤ regs by omega)
  have HS : Hid (begS ⟨ins, n, code, outs⟩ = ⟨hkL ins n, [], ins + 1⟩) := hide (by unfold begS hkL; rfl)
  obtain ⟨ca, cc, oa, oc, rfl, _, _⟩ := h
  have HN := hide (show n ≤ 128 by omega)
  have HI := hide (And.intro p1 (show ins ≤ 128 by omega))
  have hi2 : ins ≤ 128 := HI.out.2
  have hi1 : 1 ≤ ins := HI.out.1
  clear hr p1 p2 p3
  dsimp only
  go_enter Try.func10, Try.ntmps10
  go_upto_region 1 with fail
  have HB := hide (below_alloc w (.cells #[.int .i64 ins, .int .i64 (n : Int), .slice ca code.length cc, .slice oa outs.length oc] 25))
  have PX : Hid (Box4 (w.alloc (.cells #[.int .i64 ins, .int .i64 (n : Int), .slice ca code.length cc, .slice oa outs.length oc] 25)) w.heap.size 25 (.int .i64 ins) (.int .i64 (n : Int)) (.slice ca code.length cc) (.slice oa outs.length oc)) := hide (Box4.new w 25 _ _ _ _)
  generalize w.alloc (.cells #[.int .i64 ins, .int .i64 (n : Int), .slice ca code.length cc, .slice oa outs.length oc] 25) = w1 at *
  obtain ⟨I, hI⟩ : ∃ I, I = w.heap.size := ⟨_, rfl⟩
  have ZI := hide hI
  rw [← hI] at PX ⊢
  clear hI
  have c0 := PX.out.cell0
  go_upto_region 2 with fail
  have hb := below_alloc w1 (.cells #[.slice none 0 0, .slice none 0 0, .int .i64 (ins + 1)] 43)
  have SX : Hid (StAt (w1.alloc (.cells #[.slice none 0 0, .slice none 0 0, .int .i64 (ins + 1)] 43)) w.heap.size w1.heap.size (.slice none 0 0) (.slice none 0 0) ⟨hkL ins 0, [], ins + 1⟩) := hide ⟨Box3.new _ _ _ _ _, World.ownsRow_nil _ _ _ _, World.ownsRow_nil _ _ _ _, HB.out.size⟩
  replace PX := hide (PX.out.step hb)
  replace HB := hide (HB.out.trans (hb.mono HB.out.size))
  clear hb c0 hi1 hi2
  generalize w1.alloc (.cells #[.slice none 0 0, .slice none 0 0, .int .i64 (ins + 1)] 43) = w2 at *
  generalize w1.heap.size = S at *
  go_wp2
  go_loopw [4] (fun kv wr => ∃ (k : Nat) (vh : Value), k ≤ n ∧ kv = .int .i64 k ∧ Below w.heap.size w wr ∧ StAt wr w.heap.size S vh (.slice none 0 0) ⟨hkL ins k, [], ins + 1⟩ ∧ Box4 wr I 25 (.int .i64 ins) (.int .i64 (n : Int)) (.slice ca code.length cc) (.slice oa outs.length oc)) (fun kv _ => n - (intOf kv).toNat)
  case atStart => exact ⟨0, _, Nat.zero_le _, rfl, HB.out, SX.out, PX.out⟩
  case round =>
    clear HB SX PX
    obtain ⟨k, vh, hk, rfl, hb, hsx, hpx⟩ := hrel
    have HB := hide hb
    have SX := hide hsx
    have PX := hide hpx
    clear hb hsx hpx
    obtain ⟨va, vcap, hva⟩ := OwnO.val SX.out.held
    dsimp only at hva
    rw [hkL_len] at hva
    subst hva
    have hn := HN.out
    have c0 := PX.out.cell0
    have c1 := PX.out.cell1
    by_cases hlt : k < n
    · have SX0 := SX
      have c3 := SX.out.box.cell0
      have f3 := SX.out.box.free 0
      by_cases hr : (k : Int) < ins
      · have hb := below_alloc wr (.cells #[.int .i64 (k : Int)] 3)
        have SX2 : Hid (StAt (wr.alloc (.cells #[.int .i64 (k : Int)] 3)) w.heap.size S (.slice va k vcap) (.slice none 0 0) ⟨hkL ins k, [], ins + 1⟩) := hide (SX.out.below hb)
        have PX2 : Hid (Box4 (wr.alloc (.cells #[.int .i64 (k : Int)] 3)) I 25 (.int .i64 ins) (.int .i64 (n : Int)) (.slice ca code.length cc) (.slice oa outs.length oc)) := hide (PX.out.step hb)
        have HB2 : Hid (Below w.heap.size w (wr.alloc (.cells #[.int .i64 (k : Int)] 3))) := hide (HB.out.trans (hb.mono HB.out.size))
        clear hb
        have s0 := SX2.out.box.cell0
        have s1 := SX2.out.box.free 0
        have lS := SX.out.box.lt
        have lI := PX.out.lt
        go_wp2_with (at_builtin; refine app_outs rfl _ _ rfl w.heap.size _ (hkL ins k) rfl SX2.out.held _ [(k : Int)] rfl (ints1c wr 3 (k : Int) rfl) (by rw [hkL_len]; simp only [List.length_singleton]; omega) HB2.out.size ?_)
        intro v' w9 hown hgrow
        obtain ⟨vb, vcb, hvb⟩ := own_slice hown
        rw [show (hkL ins k ++ [(k : Int)]).length = k + 1 by simp [hkL_len]] at hvb
        subst hvb
        have S9 : Hid (Box3 w9 S 43 (.slice va k vcap) (.slice none 0 0) (.int .i64 (ins + 1))) := hide ((hgrow.block S SX2.out.box.lt (fun e => own_block_ne SX2.out.held SX2.out.box (by decide) e.symm)).trans SX2.out.box)
        have s2 := S9.out.cell0
        have s3 := S9.out.free 0
        go_wp2
        have NS : I ≠ S := fun e => absurd (cells_type (e ▸ PX.out : _ = _) SX0.out.box) (by decide)
        go_roundw
        case rel =>
          refine ⟨k + 1, ?vhA, by omega, by go_num, ?a1A, ?a2A, ?a3A⟩
          case a1A => exact (HB2.out.grown hgrow HB2.out.size (fun g hg => (World.ownsRow.lt SX2.out.held g hg).1)).setCell (p := ⟨S, 0, none⟩) SX0.out.ge _
          case a2A =>
            have h1 := SX2.out.pushHeld hgrow hown
            rw [hkL_succ]
            rw [show min (k : Int) ins = (k : Int) by omega]
            exact h1
          case a3A => exact Box4.set_ne ((hgrow.block I PX2.out.lt (fun e => own_block_ne SX2.out.held PX2.out (by decide) e.symm)).trans PX2.out) (Ne.symm NS) _
        case measure => simp [intOf]; omega
      · have hr' : ins ≤ (k : Int) := by omega
        go_upto_region 7 with fail
        clear c0 c1 c3 f3
        replace SX := hide SX.out.drew
        refine wp_calm (fun w' => Below w.heap.size w w' ∧ Box3 w' S 43 (.slice va k vcap) (.slice none 0 0) (.int .i64 (ins + 1)) ∧ Box4 w' I 25 (.int .i64 ins) (.int .i64 (n : Int)) (.slice ca code.length cc) (.slice oa outs.length oc)) (fun j => j != 11) 12 #[false, false, false, false, false, false, false, false, false, false, false, false] (by kernel_rfl) rfl rfl ?_
        have HF := hide (And.intro (HB.out.drew) (And.intro (SX0.out.box.drew) (PX.out.drew)))
        generalize wr.drew = wrd at *
        refine Calm.takeL 12 (i := 0) (v := ?_) (a' := ?_) (l' := #[true, false, false, false, false, false, false, false, false, false, false, false]) (d := some 30) (by kernel_rfl) rfl (by kernel_rfl) (by kernel_rfl) (by kernel_rfl) (by kernel_rfl) (fun _ _ _ h => h) HF.out rfl ?_ rfl rfl ?_ ?_
        rotate_left
        · intro w' hF; clear hF; go_simp; try rfl
        rotate_left
        · simp only [Act.put]; exact rfl
        refine Calm.takeL 12 (i := 1) (v := ?_) (a' := ?_) (l' := #[true, true, false, false, false, false, false, false, false, false, false, false]) (d := some 31) (by kernel_rfl) rfl (by kernel_rfl) (by kernel_rfl) (by kernel_rfl) (by kernel_rfl) (fun _ _ _ h => h) HF.out rfl ?_ rfl rfl ?_ ?_
        rotate_left
        · intro w' hF; clear hF; go_simp; try rfl
        rotate_left
        · simp only [Act.put]; exact rfl
        refine Calm.takeL 12 (i := 2) (v := ?_) (a' := ?_) (l' := #[true, true, true, false, false, false, false, false, false, false, false, false]) (d := some 32) (by kernel_rfl) rfl (by kernel_rfl) (by kernel_rfl) (by kernel_rfl) (by kernel_rfl) (fun _ _ _ h => h) HF.out rfl ?_ rfl rfl ?_ ?_
        rotate_left
        · intro w' hF; clear hF; go_simp; try rfl
        rotate_left
        · simp only [Act.put]; exact rfl
        refine Calm.takeL 12 (i := 3) (v := ?_) (a' := ?_) (l' := #[true, true, true, true, false, false, false, false, false, false, false, false]) (d := some 33) (by kernel_rfl) rfl (by kernel_rfl) (by kernel_rfl) (by kernel_rfl) (by kernel_rfl) (fun _ _ _ h => h) HF.out rfl ?_ rfl rfl ?_ ?_
        rotate_left
        · intro w' hF; clear hF; go_simp; try rfl
        rotate_left
        · simp only [Act.put]; exact rfl
        refine Calm.takeL 12 (i := 4) (v := ?_) (a' := ?_) (l' := #[true, true, true, true, true, false, false, false, false, false, false, false]) (d := some 34) (by kernel_rfl) rfl (by kernel_rfl) (by kernel_rfl) (by kernel_rfl) (by kernel_rfl) (fun _ _ _ h => h) HF.out rfl ?_ rfl rfl ?_ ?_
        rotate_left
        · intro w' hF; have e0 := hF.2.1.cell0; have p0 := hF.2.2.cell0; clear hF; go_simp; try rfl
        rotate_left
        · simp only [Act.put]; exact rfl
        refine Calm.takeL 12 (i := 5) (v := ?_) (a' := ?_) (l' := #[true, true, true, true, true, true, false, false, false, false, false, false]) (d := some 35) (by kernel_rfl) rfl (by kernel_rfl) (by kernel_rfl) (by kernel_rfl) (by kernel_rfl) (fun _ _ _ h => h) HF.out rfl ?_ rfl rfl ?_ ?_
        rotate_left
        · intro w' hF; clear hF; go_simp; try rfl
        rotate_left
        · simp only [Act.put]; exact rfl
        refine Calm.takeL 12 (i := 6) (v := ?_) (a' := ?_) (l' := #[true, true, true, true, true, true, true, false, false, false, false, false]) (d := some 36) (by kernel_rfl) rfl (by kernel_rfl) (by kernel_rfl) (by kernel_rfl) (by kernel_rfl) (fun _ _ _ h => h) HF.out rfl ?_ rfl rfl ?_ ?_
        rotate_left
        · intro w' hF; have e0 := hF.2.1.cell0; have p0 := hF.2.2.cell0; clear hF; go_simp; try rfl
        rotate_left
        · simp only [Act.put]; exact rfl
        refine Calm.one (i := 7) (l' := #[true, true, true, true, true, true, true, true, false, false, false, false]) (by kernel_rfl) rfl rfl rfl fun K hK => ?_
        go_simp
        have al := below_alloc wrd (.cells #[.int .i64 ins] 3)
        have HF' := hide (And.intro (HF.out.1.trans ((al).mono HF.out.1.size)) (And.intro (HF.out.2.1.step (al)) (HF.out.2.2.step (al))))
        have BXN := hide (ints1c wrd 3 ins rfl)
        replace SX := hide (SX.out.below (al))
        have LT2N := hide (HF.out.2.2.lt)
        have GEN := hide (HF.out.1.size)
        refine hK _ _ (fun _ => HF'.out) ?_
        clear hK K HF al
        have HF := hide HF'.out
        clear HF'
        generalize wrd.alloc (.cells #[.int .i64 ins] 3) = wzN at *
        generalize wrd.heap.size = gN at *
        refine Calm.one (i := 8) (l' := #[true, true, true, true, true, true, true, true, true, false, false, false]) (by kernel_rfl) rfl rfl rfl fun K hK => ?_
        have SX2 := SX
        have PX2 := hide HF.out.2.2
        have HB2 := hide HF.out.1
        refine wp_appI _ (.tmp 34) (.tmp 37) rfl w.heap.size (.slice va k vcap) (hkL ins k) rfl SX2.out.held _ ins rfl BXN.out (by rw [hkL_len]; omega) HB2.out.size ?_
        intro v' w9 hown hgrow
        obtain ⟨vb, vcb, hvb⟩ := own_slice hown
        rw [show (hkL ins k ++ [ins]).length = k + 1 by simp [hkL_len]] at hvb
        subst hvb
        have HF' := hide (And.intro (HB2.out.grown hgrow HB2.out.size (fun g hg => (World.ownsRow.lt SX2.out.held g hg).1)) (And.intro (show Box3 w9 S 43 (.slice va k vcap) (.slice none 0 0) (.int .i64 (ins + 1)) from (hgrow.block S SX2.out.box.lt (fun e => own_block_ne SX2.out.held SX2.out.box (by decide) e.symm)).trans SX2.out.box) (show Box4 w9 I 25 (.int .i64 ins) (.int .i64 (n : Int)) (.slice ca code.length cc) (.slice oa outs.length oc) from (hgrow.block I PX2.out.lt (fun e => own_block_ne SX2.out.held PX2.out (by decide) e.symm)).trans PX2.out)))
        refine hK _ _ (fun _ => HF'.out) ?_
        clear hK K HF BXN SX
        have HF := hide HF'.out
        clear HF'
        refine Calm.takeL 12 (i := 9) (v := ?_) (a' := ?_) (l' := #[true, true, true, true, true, true, true, true, true, true, false, false]) (d := some 39) (by kernel_rfl) rfl (by kernel_rfl) (by kernel_rfl) (by kernel_rfl) (by kernel_rfl) (fun _ _ _ h => h) HF.out rfl ?_ rfl rfl ?_ ?_
        rotate_left
        · intro w' hF; clear hF; go_simp; try rfl
        rotate_left
        · simp only [Act.put]; exact rfl
        refine Calm.takeL 12 (i := 10) (v := ?_) (a' := ?_) (l' := #[true, true, true, true, true, true, true, true, true, true, true, false]) (d := some 40) (by kernel_rfl) rfl (by kernel_rfl) (by kernel_rfl) (by kernel_rfl) (by kernel_rfl) (fun _ _ _ h => h) HF.out rfl ?_ rfl rfl ?_ ?_
        rotate_left
        · intro w' hF; clear hF; go_simp; try rfl
        rotate_left
        · simp only [Act.put]; exact rfl
        refine Calm.one (i := 11) (l' := #[true, true, true, true, true, true, true, true, true, true, true, true]) (by kernel_rfl) rfl rfl rfl fun K hK => ?_
        have s2 := HF.out.2.1.cell0
        have s3 := HF.out.2.1.free 0
        go_simp
        refine hK _ _ (fun h => absurd h (by decide)) ?_
        clear hK K
        refine Calm.done (by kernel_rfl) ?_
        clear s2 s3
        go_wp2
        have NS : I ≠ S := fun e => absurd (cells_type (e ▸ PX.out : _ = _) SX0.out.box) (by decide)
        go_roundw
        case rel =>
          refine ⟨k + 1, ?vhB, by omega, by go_num, ?a1B, ?a2B, ?a3B⟩
          case a1B => exact (HB2.out.grown hgrow HB2.out.size (fun g hg => (World.ownsRow.lt SX2.out.held g hg).1)).setCell (p := ⟨S, 0, none⟩) SX0.out.ge _
          case a2B =>
            have h1 := SX2.out.pushHeld hgrow hown
            rw [hkL_succ]
            rw [show min (k : Int) ins = ins by omega]
            exact h1
          case a3B => exact Box4.set_ne ((hgrow.block I PX2.out.lt (fun e => own_block_ne SX2.out.held PX2.out (by decide) e.symm)).trans PX2.out) (Ne.symm NS) _
        case measure => simp [intOf]; omega
    · have e : k = n := by omega
      subst e
      go_wp2
      go_ret
      refine ⟨⟨S, _, _, rfl, by rw [HS.out]; exact SX.out⟩, HB.out⟩
end Go.Proofs.Ytclopelniopjkaa
