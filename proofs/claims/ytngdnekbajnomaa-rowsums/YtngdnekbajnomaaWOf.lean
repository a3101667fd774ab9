/- swagelaw04.of: a row, as the program and as the document have it. -/
import Derived.Test.YtngdnekbajnomaaWList
import Derived.Test.YtngdnekbajnomaaCalmL
import Derived.Test.YtngdnekbajnomaaCalm3
import Derived.Deep.Cut
namespace Go.Proofs.Ytngdnekbajnomaa
open Go.RowKit

/-- numbers as they are handed in -/
def NumL (w : World) (v : Value) (ns : List (Bool × List Nat)) : Prop :=
  ∃ a cap, v = .slice a ns.length cap ∧ ns.length ≤ cap ∧ cap ≤ 140737488355328 ∧ (∀ i, (ns.getD i (false, [])).2.length ≤ 140737488355328) ∧ (ns ≠ [] → ∃ b off, a = some ⟨b, off, none⟩ ∧
    ∀ i, i < ns.length → ∃ m c, w.cell? ⟨b, off + i * 2, none⟩ = some (.bool (ns.getD i (false, [])).1) ∧ w.cell? ⟨b, off + i * 2 + 1, none⟩ = some (.slice m (ns.getD i (false, [])).2.length c) ∧ Nums w (.slice m (ns.getD i (false, [])).2.length c) (ns.getD i (false, [])).2)
theorem NumL.below {w w' : World} {v : Value} {ns : List (Bool × List Nat)} (h : NumL w v ns) (hb : Below w.heap.size w w') : NumL w' v ns := by
  obtain ⟨a, cap, rfl, h1, h2, h4, h3⟩ := h
  refine ⟨a, cap, rfl, h1, h2, h4, fun hx => ?_⟩
  obtain ⟨b, off, rfl, hc⟩ := h3 hx
  refine ⟨b, off, rfl, fun i hi => ?_⟩
  obtain ⟨m, c, k1, k2, k3⟩ := hc i hi
  exact ⟨m, c, (hb.cell (World.block_lt_of_cell? w _ k1)).trans k1, (hb.cell (World.block_lt_of_cell? w _ k2)).trans k2, k3.below hb⟩
theorem NumL.at {w : World} {a : Option Addr} {n cap : Nat} {ns : List (Bool × List Nat)} (h : NumL w (.slice a n cap) ns) {i : Nat} (hi : i < ns.length) :
    ∃ b off, a = some ⟨b, off, none⟩ ∧ ∃ s m l c xs, CellAt w ⟨b, off + i * 2, none⟩ (.bool s) ∧ CellAt w ⟨b, off + i * 2 + 1, none⟩ (.slice m l c) ∧ Nums w (.slice m l c) xs ∧ ns.getD i (false, []) = (s, xs) := by
  obtain ⟨a', c', he, _, _, _, h3⟩ := h
  simp only [Value.slice.injEq] at he
  obtain ⟨rfl, _, rfl⟩ := he
  obtain ⟨b, off, rfl, h⟩ := h3 (by intro e; rw [e] at hi; simp at hi)
  obtain ⟨m, c, k1, k2, k3⟩ := h i hi
  exact ⟨b, off, rfl, _, m, _, c, _, ⟨k1⟩, ⟨k2⟩, k3, rfl⟩
/-- which numbers they are -/
def numsZ (ns : List (Bool × List Nat)) : List Int := ns.map fun p => sg p.1 (val p.2)
theorem numsZ_take {ns : List (Bool × List Nat)} {k : Nat} {s : Bool} {xs : List Nat} (h : k < ns.length) (e : ns.getD k (false, []) = (s, xs)) : (numsZ ns).take (k + 1) = (numsZ ns).take k ++ [sg s (val xs)] := by
  have h' : k < (numsZ ns).length := by simpa [numsZ] using h
  rw [List.take_succ_eq_append_getElem h']
  congr 2
  have : ns[k] = (s, xs) := by rw [← e]; simp [h]
  simp [numsZ, this]
theorem below_grow {B : Nat} {w w' w'' : World} {r : Option Nat} (h : Below B w w') (hg : w'.grownBy w'' r) (hB : B ≤ w'.heap.size) (hr : ∀ g, r = some g → B ≤ g) : Below B w w'' := h.grown hg hB hr
theorem Try.infoRB : (Try.prog.info? 39).map (fun i => (i.zero, i.size, i.bytes)) = some (some (.agg #[.bool false, .slice none 0 0]), 2, 32) := by kernel_rfl

set_option maxRecDepth 100000 in
set_option maxHeartbeats 8000000 in
theorem rowof_any (va : Value) (ns : List (Bool × List Nat)) (w : World) (h : NumL w va ns) (hn : ns.length ≤ 1000000) (hl : ∀ i, (ns.getD i (false, [])).2.length ≤ 1000000) :
    Calls Try.prog 6 #[va] w fun e w' => ∃ v u, e = .returned (.tuple #[v, u]) ∧ Ints w' v (numsZ ns) ∧ RInts w' u (numsZ ns) ∧ Below w.heap.size w w' := by
  have HI := hide h
  have HL := hide hl
  obtain ⟨a, cap, rfl, hcap, hm, _, _⟩ := h
  obtain ⟨i0, hi0, hz0, hz1, hz2⟩ := info_parts Try.infoIntB
  obtain ⟨i1, hi1, hy0, hy1, hy2⟩ := info_parts Try.infoRB
  have TI := hide (And.intro hi0 (And.intro hz0 (And.intro hz1 hz2)))
  have TR := hide (And.intro hi1 (And.intro hy0 (And.intro hy1 hy2)))
  clear hl hi0 hz0 hz1 hz2 hi1 hy0 hy1 hy2
  go_enter Try.func6, Try.ntmps6
  go_wp2
  go_loopw [4, 5, 6] (fun va vb iv wr => ∃ k : Nat, k ≤ ns.length ∧ iv = .int .i64 k ∧ Below w.heap.size w wr ∧ ListI wr w.heap.size va ((numsZ ns).take k) ∧ ListR wr w.heap.size vb ((numsZ ns).take k) ∧ ∀ g, va.ownBlock = some g → vb.ownBlock ≠ some g) (fun _ _ iv _ => ns.length - (intOf iv).toNat)
  case atStart => exact ⟨0, Nat.zero_le _, rfl, Below.refl _ _, ListI.nil _ _, ListR.nil _ _, fun g h => by cases h⟩
  case round =>
    obtain ⟨k, hk, rfl, hb, hA, hB, hap⟩ := hrel
    have HB := hide hb
    have LA := hide hA
    have LB := hide hB
    have AP := hide hap
    clear hb hA hB hap
    by_cases hlt : k < ns.length
    · obtain ⟨b, off, rfl, s, m, l, c, xs, k1, k2, k3, k4⟩ := (HI.out.below HB.out).at hlt
      have BL : Hid (b < w.heap.size) := hide (by
        obtain ⟨b', off', e, s', m', l', c', xs', q1, _⟩ := HI.out.at hlt
        simp only [Option.some.injEq, Addr.mk.injEq] at e
        rw [e.1]; exact World.block_lt_of_cell? w _ q1.out)
      have K1 := hide k1
      have K2 := hide k2
      have NX := hide k3
      have TK := hide (numsZ_take hlt k4)
      have LX : Hid (xs.length ≤ 1000000) := hide (by have := HL.out k; rw [k4] at this; exact this)
      clear k1 k2 k3 k4
      generalize hT : (numsZ ns).take k = T at *
      have TL : Hid (T.length ≤ 1000000) := hide (by rw [← hT, List.length_take]; omega)
      clear hT
      go_wp2_with fail
      refine wp_calm (fun w' => Below w.heap.size w w' ∧ CellAt w' ⟨b, off + k * 2, none⟩ (.bool s) ∧ CellAt w' ⟨b, off + k * 2 + 1, none⟩ (.slice m l c) ∧ Nums w' (.slice m l c) xs ∧ ListI w' w.heap.size u4 T ∧ ListR w' w.heap.size u5 T) (fun j => j != 13 && j != 14) 15 #[false, false, false, false, false, false, false, false, false, false, false, false, false, false, false] (by kernel_rfl) rfl rfl ?_
      have HF := hide (And.intro (HB.out.drew) (And.intro (K1.out.drew) (And.intro (K2.out.drew) (And.intro (NX.out.drew) (And.intro (LA.out.drew) (LB.out.drew))))))
      generalize wr.drew = wrd at *
      refine Calm.takeL 15 (i := 0) (v := ?_) (a' := ?_) (l' := #[true, false, false, false, false, false, false, false, false, false, false, false, false, false, false]) (d := some 13) (by kernel_rfl) rfl (by kernel_rfl) (by kernel_rfl) (by kernel_rfl) (by kernel_rfl) (fun _ _ _ h => h) HF.out rfl ?_ rfl rfl ?_ ?_
      rotate_left
      · intro w' hF; clear hF; go_simp; try rfl
      rotate_left
      · simp only [Act.put]; exact rfl
      refine Calm.takeL 15 (i := 1) (v := ?_) (a' := ?_) (l' := #[true, true, false, false, false, false, false, false, false, false, false, false, false, false, false]) (d := some 14) (by kernel_rfl) rfl (by kernel_rfl) (by kernel_rfl) (by kernel_rfl) (by kernel_rfl) (fun _ _ _ h => h) HF.out rfl ?_ rfl rfl ?_ ?_
      rotate_left
      · intro w' hF; clear hF; go_simp; try rfl
      rotate_left
      · simp only [Act.put]; exact rfl
      refine Calm.takeL 15 (i := 2) (v := ?_) (a' := ?_) (l' := #[true, true, true, false, false, false, false, false, false, false, false, false, false, false, false]) (d := some 15) (by kernel_rfl) rfl (by kernel_rfl) (by kernel_rfl) (by kernel_rfl) (by kernel_rfl) (fun _ _ _ h => h) HF.out rfl ?_ rfl rfl ?_ ?_
      rotate_left
      · intro w' hF; clear hF; go_simp; try rfl
      rotate_left
      · simp only [Act.put]; exact rfl
      refine Calm.takeL 15 (i := 3) (v := ?_) (a' := ?_) (l' := #[true, true, true, true, false, false, false, false, false, false, false, false, false, false, false]) (d := some 16) (by kernel_rfl) rfl (by kernel_rfl) (by kernel_rfl) (by kernel_rfl) (by kernel_rfl) (fun _ _ _ h => h) HF.out rfl ?_ rfl rfl ?_ ?_
      rotate_left
      · intro w' hF; clear hF; go_simp; try rfl
      rotate_left
      · simp only [Act.put]; exact rfl
      refine Calm.takeL 15 (i := 4) (v := ?_) (a' := ?_) (l' := #[true, true, true, true, true, false, false, false, false, false, false, false, false, false, false]) (d := some 17) (by kernel_rfl) rfl (by kernel_rfl) (by kernel_rfl) (by kernel_rfl) (by kernel_rfl) (fun _ _ _ h => h) HF.out rfl ?_ rfl rfl ?_ ?_
      rotate_left
      · intro w' hF; clear hF; go_simp; try rfl
      rotate_left
      · simp only [Act.put]; exact rfl
      refine Calm.takeL 15 (i := 5) (v := ?_) (a' := ?_) (l' := #[true, true, true, true, true, true, false, false, false, false, false, false, false, false, false]) (d := some 18) (by kernel_rfl) rfl (by kernel_rfl) (by kernel_rfl) (by kernel_rfl) (by kernel_rfl) (fun _ _ _ h => h) HF.out rfl ?_ rfl rfl ?_ ?_
      rotate_left
      · intro w' hF; have f10 := hF.2.1.out; have f20 := hF.2.2.1.out; clear hF; go_simp; try rfl
      rotate_left
      · simp only [Act.put]; exact rfl
      refine Calm.takeL 15 (i := 6) (v := ?_) (a' := ?_) (l' := #[true, true, true, true, true, true, true, false, false, false, false, false, false, false, false]) (d := some 19) (by kernel_rfl) rfl (by kernel_rfl) (by kernel_rfl) (by kernel_rfl) (by kernel_rfl) (fun _ _ _ h => h) HF.out rfl ?_ rfl rfl ?_ ?_
      rotate_left
      · intro w' hF; clear hF; go_simp; try rfl
      rotate_left
      · simp only [Act.put]; exact rfl
      refine Calm.takeL 15 (i := 7) (v := ?_) (a' := ?_) (l' := #[true, true, true, true, true, true, true, true, false, false, false, false, false, false, false]) (d := some 20) (by kernel_rfl) rfl (by kernel_rfl) (by kernel_rfl) (by kernel_rfl) (by kernel_rfl) (fun _ _ _ h => h) HF.out rfl ?_ rfl rfl ?_ ?_
      rotate_left
      · intro w' hF; clear hF; go_simp; try rfl
      rotate_left
      · simp only [Act.put]; exact rfl
      refine Calm.takeL 15 (i := 8) (v := ?_) (a' := ?_) (l' := #[true, true, true, true, true, true, true, true, true, false, false, false, false, false, false]) (d := some 21) (by kernel_rfl) rfl (by kernel_rfl) (by kernel_rfl) (by kernel_rfl) (by kernel_rfl) (fun _ _ _ h => h) HF.out rfl ?_ rfl rfl ?_ ?_
      rotate_left
      · intro w' hF; clear hF; go_simp; try rfl
      rotate_left
      · simp only [Act.put]; exact rfl
      refine Calm.takeL 15 (i := 9) (v := ?_) (a' := ?_) (l' := #[true, true, true, true, true, true, true, true, true, true, false, false, false, false, false]) (d := some 22) (by kernel_rfl) rfl (by kernel_rfl) (by kernel_rfl) (by kernel_rfl) (by kernel_rfl) (fun _ _ _ h => h) HF.out rfl ?_ rfl rfl ?_ ?_
      rotate_left
      · intro w' hF; clear hF; go_simp; try rfl
      rotate_left
      · simp only [Act.put]; exact rfl
      refine Calm.takeL 15 (i := 10) (v := ?_) (a' := ?_) (l' := #[true, true, true, true, true, true, true, true, true, true, true, false, false, false, false]) (d := some 23) (by kernel_rfl) rfl (by kernel_rfl) (by kernel_rfl) (by kernel_rfl) (by kernel_rfl) (fun _ _ _ h => h) HF.out rfl ?_ rfl rfl ?_ ?_
      rotate_left
      · intro w' hF; have f10 := hF.2.1.out; have f20 := hF.2.2.1.out; clear hF; go_simp; try rfl
      rotate_left
      · simp only [Act.put]; exact rfl
      refine Calm.one (i := 11) (l' := #[true, true, true, true, true, true, true, true, true, true, true, true, false, false, false]) (by kernel_rfl) rfl rfl rfl fun K hK => ?_
      go_simp
      refine (make_any s _ xs _ HF.out.2.2.2.1 (by have := LX.out; omega)).mono ?_
      rintro e yA ⟨v, rfl, n, hb⟩
      obtain ⟨sA, mA, lA, cA, rfl, n⟩ := n.cells
      have HF' := hide (And.intro (HF.out.1.trans ((hb).mono HF.out.1.size)) (And.intro (HF.out.2.1.step (hb)) (And.intro (HF.out.2.2.1.step (hb)) (And.intro (HF.out.2.2.2.1.below (hb)) (And.intro (HF.out.2.2.2.2.1.below (hb)) (HF.out.2.2.2.2.2.below (hb)))))))
      have TV := hide (n)
      refine hK _ _ (fun _ => HF'.out) ?_
      clear hK K HF hb n
      have HF := hide HF'.out
      clear HF'
      refine Calm.one (i := 12) (l' := #[true, true, true, true, true, true, true, true, true, true, true, true, true, false, false]) (by kernel_rfl) rfl rfl rfl fun K hK => ?_
      go_simp
      have al := below_alloc yA (.cells #[.bool sA, .slice mA lA cA] 36)
      have HF' := hide (And.intro (HF.out.1.trans ((al).mono HF.out.1.size)) (And.intro (HF.out.2.1.step (al)) (And.intro (HF.out.2.2.1.step (al)) (And.intro (HF.out.2.2.2.1.below (al)) (And.intro (HF.out.2.2.2.2.1.below (al)) (HF.out.2.2.2.2.2.below (al)))))))
      have BXe := hide (Box.new yA (.bool sA) (.slice mA lA cA))
      replace TV := hide (TV.out.below (al))
      have GEe := hide (HF.out.1.size)
      refine hK _ _ (fun _ => HF'.out) ?_
      clear hK K HF al
      have HF := hide HF'.out
      clear HF'
      generalize yA.alloc (.cells #[.bool sA, .slice mA lA cA] 36) = wze at *
      generalize yA.heap.size = ge at *
      refine Calm.one (i := 13) (l' := #[true, true, true, true, true, true, true, true, true, true, true, true, true, true, false]) (by kernel_rfl) rfl rfl rfl fun K hK => ?_
      obtain ⟨zx, ho, hx⟩ := HF.out.2.2.2.2.1
      have he0 := BXe.out.cell0
      have he1 := BXe.out.cell1
      refine wp_app2 _ (.tmp 13) (.tmp 25) 30 rfl w.heap.size 36 _ Try.underlying30 TI.out.1 TI.out.2.1 TI.out.2.2.1 TI.out.2.2.2 u4 T.length zx rfl ho ge 1 sA mA lA cA rfl he0 he1 (by have := TL.out; omega) (by have := HF.out.1.size; omega) ?_
      intro vA xA ho' hg hob
      clear he0 he1
      refine hK _ _ (fun h => absurd h (by decide)) ?_
      clear hK K
      refine Calm.one (i := 14) (l' := #[true, true, true, true, true, true, true, true, true, true, true, true, true, true, true]) (by kernel_rfl) rfl rfl rfl fun K hK => ?_
      go_simp
      refine hK _ _ (fun h => absurd h (by decide)) ?_
      clear hK K
      refine Calm.done (by kernel_rfl) ?_
      have HK2 := hide (show Spares wze xA from Own2.spares ho hg)
      have HG := hide hg
      have HO := hide hob
      have LA2 := hide (ListI.app ho hx TV.out ho' hg)
      have LB2 := hide (HF.out.2.2.2.2.2.other hg HK2.out (fun g h e => AP.out g e h))
      have HB2 := hide (below_grow HF.out.1 hg HF.out.1.size (fun g e => (HF.out.2.2.2.2.1.lt e).1))
      have K12 := hide (CellAt.mk (hg.cell HF.out.2.1.out (fun e => by have h1 := (HF.out.2.2.2.2.1.lt e.symm).1; have h2 := BL.out; exact absurd h1 (by simp only; omega))))
      have K22 := hide (CellAt.mk (hg.cell HF.out.2.2.1.out (fun e => by have h1 := (HF.out.2.2.2.2.1.lt e.symm).1; have h2 := BL.out; exact absurd h1 (by simp only; omega))))
      have NX2 := hide (HK2.out _ _ HF.out.2.2.2.1)
      have AP2 : Hid (∀ g, vA.ownBlock = some g → u5.ownBlock ≠ some g) := hide (fun g h1 h2 => by rcases HO.out with e | e; exact AP.out g (e ▸ h1) h2; have h3 := (HF.out.2.2.2.2.2.lt h2).2; rw [e] at h1; simp only [Option.some.injEq] at h1; omega)
      skip
      clear HF ho hx ho' hg hob TV BXe HB LA LB AP K1 K2 NX HK2 HG HO GEe
      replace HB := hide HB2.out
      replace LA := hide LA2.out
      replace LB := hide LB2.out
      replace K1 := hide K12.out
      replace K2 := hide K22.out
      replace NX := hide NX2.out
      replace AP := hide AP2.out
      clear HB2 LA2 LB2 K12 K22 NX2 AP2
      go_wp2_with fail
      refine wp_calm (fun w' => Below w.heap.size w w' ∧ CellAt w' ⟨b, off + k * 2, none⟩ (.bool s) ∧ CellAt w' ⟨b, off + k * 2 + 1, none⟩ (.slice m l c) ∧ Nums w' (.slice m l c) xs ∧ ListI w' w.heap.size vA (T ++ [sg s (val xs)]) ∧ ListR w' w.heap.size u5 T) (fun j => j != 13 && j != 14) 15 #[false, false, false, false, false, false, false, false, false, false, false, false, false, false, false] (by kernel_rfl) rfl rfl ?_
      have HF := hide (And.intro (HB.out.drew) (And.intro (K1.out.drew) (And.intro (K2.out.drew) (And.intro (NX.out.drew) (And.intro (LA.out.drew) (LB.out.drew))))))
      generalize xA.drew = xAd at *
      refine Calm.takeL 15 (i := 0) (v := ?_) (a' := ?_) (l' := #[true, false, false, false, false, false, false, false, false, false, false, false, false, false, false]) (d := some 27) (by kernel_rfl) rfl (by kernel_rfl) (by kernel_rfl) (by kernel_rfl) (by kernel_rfl) (fun _ _ _ h => h) HF.out rfl ?_ rfl rfl ?_ ?_
      rotate_left
      · intro w' hF; clear hF; go_simp; try rfl
      rotate_left
      · simp only [Act.put]; exact rfl
      refine Calm.takeL 15 (i := 1) (v := ?_) (a' := ?_) (l' := #[true, true, false, false, false, false, false, false, false, false, false, false, false, false, false]) (d := some 28) (by kernel_rfl) rfl (by kernel_rfl) (by kernel_rfl) (by kernel_rfl) (by kernel_rfl) (fun _ _ _ h => h) HF.out rfl ?_ rfl rfl ?_ ?_
      rotate_left
      · intro w' hF; clear hF; go_simp; try rfl
      rotate_left
      · simp only [Act.put]; exact rfl
      refine Calm.takeL 15 (i := 2) (v := ?_) (a' := ?_) (l' := #[true, true, true, false, false, false, false, false, false, false, false, false, false, false, false]) (d := some 29) (by kernel_rfl) rfl (by kernel_rfl) (by kernel_rfl) (by kernel_rfl) (by kernel_rfl) (fun _ _ _ h => h) HF.out rfl ?_ rfl rfl ?_ ?_
      rotate_left
      · intro w' hF; clear hF; go_simp; try rfl
      rotate_left
      · simp only [Act.put]; exact rfl
      refine Calm.takeL 15 (i := 3) (v := ?_) (a' := ?_) (l' := #[true, true, true, true, false, false, false, false, false, false, false, false, false, false, false]) (d := some 30) (by kernel_rfl) rfl (by kernel_rfl) (by kernel_rfl) (by kernel_rfl) (by kernel_rfl) (fun _ _ _ h => h) HF.out rfl ?_ rfl rfl ?_ ?_
      rotate_left
      · intro w' hF; clear hF; go_simp; try rfl
      rotate_left
      · simp only [Act.put]; exact rfl
      refine Calm.takeL 15 (i := 4) (v := ?_) (a' := ?_) (l' := #[true, true, true, true, true, false, false, false, false, false, false, false, false, false, false]) (d := some 31) (by kernel_rfl) rfl (by kernel_rfl) (by kernel_rfl) (by kernel_rfl) (by kernel_rfl) (fun _ _ _ h => h) HF.out rfl ?_ rfl rfl ?_ ?_
      rotate_left
      · intro w' hF; clear hF; go_simp; try rfl
      rotate_left
      · simp only [Act.put]; exact rfl
      refine Calm.takeL 15 (i := 5) (v := ?_) (a' := ?_) (l' := #[true, true, true, true, true, true, false, false, false, false, false, false, false, false, false]) (d := some 32) (by kernel_rfl) rfl (by kernel_rfl) (by kernel_rfl) (by kernel_rfl) (by kernel_rfl) (fun _ _ _ h => h) HF.out rfl ?_ rfl rfl ?_ ?_
      rotate_left
      · intro w' hF; have f10 := hF.2.1.out; have f20 := hF.2.2.1.out; clear hF; go_simp; try rfl
      rotate_left
      · simp only [Act.put]; exact rfl
      refine Calm.takeL 15 (i := 6) (v := ?_) (a' := ?_) (l' := #[true, true, true, true, true, true, true, false, false, false, false, false, false, false, false]) (d := some 33) (by kernel_rfl) rfl (by kernel_rfl) (by kernel_rfl) (by kernel_rfl) (by kernel_rfl) (fun _ _ _ h => h) HF.out rfl ?_ rfl rfl ?_ ?_
      rotate_left
      · intro w' hF; clear hF; go_simp; try rfl
      rotate_left
      · simp only [Act.put]; exact rfl
      refine Calm.takeL 15 (i := 7) (v := ?_) (a' := ?_) (l' := #[true, true, true, true, true, true, true, true, false, false, false, false, false, false, false]) (d := some 34) (by kernel_rfl) rfl (by kernel_rfl) (by kernel_rfl) (by kernel_rfl) (by kernel_rfl) (fun _ _ _ h => h) HF.out rfl ?_ rfl rfl ?_ ?_
      rotate_left
      · intro w' hF; clear hF; go_simp; try rfl
      rotate_left
      · simp only [Act.put]; exact rfl
      refine Calm.takeL 15 (i := 8) (v := ?_) (a' := ?_) (l' := #[true, true, true, true, true, true, true, true, true, false, false, false, false, false, false]) (d := some 35) (by kernel_rfl) rfl (by kernel_rfl) (by kernel_rfl) (by kernel_rfl) (by kernel_rfl) (fun _ _ _ h => h) HF.out rfl ?_ rfl rfl ?_ ?_
      rotate_left
      · intro w' hF; clear hF; go_simp; try rfl
      rotate_left
      · simp only [Act.put]; exact rfl
      refine Calm.takeL 15 (i := 9) (v := ?_) (a' := ?_) (l' := #[true, true, true, true, true, true, true, true, true, true, false, false, false, false, false]) (d := some 36) (by kernel_rfl) rfl (by kernel_rfl) (by kernel_rfl) (by kernel_rfl) (by kernel_rfl) (fun _ _ _ h => h) HF.out rfl ?_ rfl rfl ?_ ?_
      rotate_left
      · intro w' hF; clear hF; go_simp; try rfl
      rotate_left
      · simp only [Act.put]; exact rfl
      refine Calm.takeL 15 (i := 10) (v := ?_) (a' := ?_) (l' := #[true, true, true, true, true, true, true, true, true, true, true, false, false, false, false]) (d := some 37) (by kernel_rfl) rfl (by kernel_rfl) (by kernel_rfl) (by kernel_rfl) (by kernel_rfl) (fun _ _ _ h => h) HF.out rfl ?_ rfl rfl ?_ ?_
      rotate_left
      · intro w' hF; have f10 := hF.2.1.out; have f20 := hF.2.2.1.out; clear hF; go_simp; try rfl
      rotate_left
      · simp only [Act.put]; exact rfl
      refine Calm.one (i := 11) (l' := #[true, true, true, true, true, true, true, true, true, true, true, true, false, false, false]) (by kernel_rfl) rfl rfl rfl fun K hK => ?_
      go_simp
      refine (rmake_any s _ xs _ HF.out.2.2.2.1 (by have := LX.out; omega)).mono ?_
      rintro e yB ⟨v, rfl, n, hb⟩
      obtain ⟨sB, mB, lB, cB, rfl, n⟩ : ∃ s9 m9 l9 c9, v = .agg #[.bool s9, .slice m9 l9 c9] ∧ RInt yB (.agg #[.bool s9, .slice m9 l9 c9]) (sg s (val xs)) := by obtain ⟨b, j, a, c, rfl, hx⟩ := n; exact ⟨b, a, _, c, rfl, b, j, a, c, rfl, hx⟩
      have HF' := hide (And.intro (HF.out.1.trans ((hb).mono HF.out.1.size)) (And.intro (HF.out.2.1.step (hb)) (And.intro (HF.out.2.2.1.step (hb)) (And.intro (HF.out.2.2.2.1.below (hb)) (And.intro (HF.out.2.2.2.2.1.below (hb)) (HF.out.2.2.2.2.2.below (hb)))))))
      have TV := hide (n)
      refine hK _ _ (fun _ => HF'.out) ?_
      clear hK K HF hb n
      have HF := hide HF'.out
      clear HF'
      refine Calm.one (i := 12) (l' := #[true, true, true, true, true, true, true, true, true, true, true, true, true, false, false]) (by kernel_rfl) rfl rfl rfl fun K hK => ?_
      go_simp
      have al := below_alloc yB (.cells #[.bool sB, .slice mB lB cB] 39)
      have HF' := hide (And.intro (HF.out.1.trans ((al).mono HF.out.1.size)) (And.intro (HF.out.2.1.step (al)) (And.intro (HF.out.2.2.1.step (al)) (And.intro (HF.out.2.2.2.1.below (al)) (And.intro (HF.out.2.2.2.2.1.below (al)) (HF.out.2.2.2.2.2.below (al)))))))
      have BXe := hide (Box2.new yB 39 (.bool sB) (.slice mB lB cB))
      replace TV := hide (TV.out.below (al))
      have GEe := hide (HF.out.1.size)
      refine hK _ _ (fun _ => HF'.out) ?_
      clear hK K HF al
      have HF := hide HF'.out
      clear HF'
      generalize yB.alloc (.cells #[.bool sB, .slice mB lB cB] 39) = wze at *
      generalize yB.heap.size = ge at *
      refine Calm.one (i := 13) (l' := #[true, true, true, true, true, true, true, true, true, true, true, true, true, true, false]) (by kernel_rfl) rfl rfl rfl fun K hK => ?_
      obtain ⟨zx, ho, hx⟩ := HF.out.2.2.2.2.2
      have he0 := BXe.out.cell0
      have he1 := BXe.out.cell1
      refine wp_app2 _ (.tmp 27) (.tmp 39) 32 rfl w.heap.size 39 _ Try.underlying32 TR.out.1 TR.out.2.1 TR.out.2.2.1 TR.out.2.2.2 u5 T.length zx rfl ho ge 1 sB mB lB cB rfl he0 he1 (by have := TL.out; omega) (by have := HF.out.1.size; omega) ?_
      intro vB xB ho' hg hob
      clear he0 he1
      refine hK _ _ (fun h => absurd h (by decide)) ?_
      clear hK K
      refine Calm.one (i := 14) (l' := #[true, true, true, true, true, true, true, true, true, true, true, true, true, true, true]) (by kernel_rfl) rfl rfl rfl fun K hK => ?_
      go_simp
      refine hK _ _ (fun h => absurd h (by decide)) ?_
      clear hK K
      refine Calm.done (by kernel_rfl) ?_
      have HK2 := hide (show Spares wze xB from Own2.spares ho hg)
      have HO := hide hob
      have LB2 := hide (ListR.app ho hx TV.out ho' hg)
      have LA2 := hide (HF.out.2.2.2.2.1.other hg HK2.out (fun g h e => AP.out g h e))
      have HB2 := hide (below_grow HF.out.1 hg HF.out.1.size (fun g e => (HF.out.2.2.2.2.2.lt e).1))
      have AP2 : Hid (∀ g, vA.ownBlock = some g → vB.ownBlock ≠ some g) := hide (fun g h1 h2 => by rcases HO.out with e | e; exact AP.out g h1 (e ▸ h2); have h3 := (HF.out.2.2.2.2.1.lt h1).2; rw [e] at h2; simp only [Option.some.injEq] at h2; omega)
      clear HF ho hx ho' hg hob TV BXe
      go_wp2
      go_roundw
      case rel => exact ⟨k + 1, by omega, by go_num, HB2.out, by rw [TK.out]; exact LA2.out, by rw [TK.out]; exact LB2.out, AP2.out⟩
      case measure => simp [intOf]; omega
    · have e : k = ns.length := by omega
      subst e
      have ET : Hid ((numsZ ns).take ns.length = numsZ ns) := hide (List.take_of_length_le (by simp [numsZ]))
      rw [ET.out] at LA LB
      go_wp2
      go_ret2
      exact ⟨_, _, rfl, LA.out.ints, LB.out.rints, HB.out⟩
end Go.Proofs.Ytngdnekbajnomaa
