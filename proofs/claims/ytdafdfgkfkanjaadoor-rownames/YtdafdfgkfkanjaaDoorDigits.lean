/- limb.Digits and its iterator: the digits of a number, from the first one on, left early or not. -/
import Derived.Test.YtdafdfgkfkanjaaDoorGroups
import Derived.RangeFuncBox
import Derived.RangeFuncLeaves
import Derived.RangeFuncNested
import Derived.Shelf.Abstract
import Derived.OwnWalkIn
import Derived.TacticsInMore
import Derived.LoopNIn
import Derived.LoopIn
import Derived.Maps.AppendAt
namespace Go.Proofs.YtdafdfgkfkanjaaDoor
open Go.RowKit Go.Shelf
attribute [local go_sem] Oper.semAt_some

/-- a digit -/
abbrev Dg := { x : Nat // x < 10 }

def digsD : Nat → Nat → List Dg
  | 0, g => [⟨g % 10, Nat.mod_lt _ (by decide)⟩]
  | k + 1, g => ⟨g / 10 ^ (k + 1) % 10, Nat.mod_lt _ (by decide)⟩ :: digsD k g
def toldD : List Nat → List Dg
  | [] => []
  | [t] => digsD (nd t) t
  | g :: h :: gs => toldD (h :: gs) ++ digsD 8 g

theorem digsD_val (k g : Nat) : (digsD k g).map (·.1) = digs k g := by
  induction k with
  | zero => rfl
  | succ k ih => simp only [digsD, digs, List.map_cons, ih]
theorem toldD_val : ∀ gs, (toldD gs).map (·.1) = told gs
  | [] => rfl
  | [t] => digsD_val _ _
  | g :: h :: gs => by rw [show toldD (g :: h :: gs) = toldD (h :: gs) ++ digsD 8 g from rfl, List.map_append, toldD_val, digsD_val]; rfl

/-- how many digits stand behind the first one of the group k -/
def jn (gs : List Nat) (k : Nat) : Nat := if k + 1 = gs.length then nd (lm gs k) else 8

theorem toldD_drop (gs : List Nat) (k : Nat) (h : k < gs.length) : toldD (gs.drop k) = toldD (gs.drop (k + 1)) ++ digsD (jn gs k) (lm gs k) := by
  rw [List.drop_eq_getElem_cons h, lm_get _ _ h]
  unfold jn
  by_cases e : k + 1 = gs.length
  · rw [if_pos e, List.drop_eq_nil_of_le (by omega), lm_get _ _ h]; simp [toldD]
  · rw [if_neg e]
    cases hd : gs.drop (k + 1) with
    | nil => have := List.drop_eq_nil_iff.1 hd; omega
    | cons a b => rfl

theorem digsD_pos (j g : Nat) : ∃ rest, digsD j g = ⟨g / pw j % 10, Nat.mod_lt _ (by decide)⟩ :: rest ∧ rest = (if j = 0 then [] else digsD (j - 1) g) := by
  cases j with
  | zero => exact ⟨_, by simp [digsD, pw], rfl⟩
  | succ j => exact ⟨_, rfl, by simp⟩

theorem pw_div (j : Nat) : pw j / 10 = if j = 0 then 0 else pw (j - 1) := by
  cases j with
  | zero => rfl
  | succ j => simp only [pw]; rw [pow_succ10]; simp
theorem pw_pos (j : Nat) : 0 < pw j := pow_pos10 j
theorem pw_le {j : Nat} (h : j ≤ 8) : pw j ≤ 100000000 := Nat.le_trans (Nat.pow_le_pow_right (by decide) h) (by decide)
theorem nd_le {g : Nat} (h : g < UU) : nd g ≤ 8 := by
  by_cases h8 : nd g ≤ 8
  · exact h8
  · have h9 : 10 ^ 9 ≤ 10 ^ nd g := Nat.pow_le_pow_right (by decide) (by omega)
    rcases (nd_spec g).2 with e | e
    · omega
    · have : (10 : Nat) ^ 9 = UU := by decide
      omega

/-- the blocks from lo to hi lie as they lay -/
def Keeps (lo hi : Nat) (W W' : World) : Prop := ∀ k, lo ≤ k → k < hi → W'.heap[k]? = W.heap[k]?
theorem Keeps.refl (lo hi : Nat) (W : World) : Keeps lo hi W W := fun _ _ _ => rfl
theorem Keeps.trans {lo hi : Nat} {A B C : World} (h : Keeps lo hi A B) (k : Keeps lo hi B C) : Keeps lo hi A C := fun i h1 h2 => (k i h1 h2).trans (h i h1 h2)
theorem Keeps.cell {lo hi : Nat} {W W' : World} (h : Keeps lo hi W W') {b o : Nat} (h1 : lo ≤ b) (h2 : b < hi) : W'.cell? ⟨b, o, none⟩ = W.cell? ⟨b, o, none⟩ := World.cell?_of_block (h b h1 h2)

theorem toldD_prefix (gs : List Nat) (k : Nat) (h : k ≤ gs.length) : toldD (gs.drop k) <+: toldD gs := by
  induction k with
  | zero => exact List.prefix_refl _
  | succ k ih => exact List.IsPrefix.trans ⟨_, (toldD_drop gs k (by omega)).symm⟩ (ih (by omega))

theorem digs_room {gs : List Nat} {k j : Nat} {pre rest : List Dg} (hk : k ≤ gs.length) (hp : pre ++ rest = toldD (gs.drop k)) (hr : rest = digsD j (lm gs k)) : pre.length < (toldD gs).length := by
  have h1 := (toldD_prefix gs k hk).length_le
  rw [← hp, List.length_append] at h1
  obtain ⟨r, e, _⟩ := digsD_pos j (lm gs k)
  rw [hr, e, List.length_cons] at h1
  omega

theorem digs_next {gs : List Nat} {k j u : Nat} {pre rest : List Dg} {x : Dg} (hj : j ≤ 8) (hp : pre ++ rest = toldD (gs.drop k)) (hu : u = pw j) (hr : rest = digsD j (lm gs k)) (hx : x.1 = lm gs k / u % 10) :
    ∃ (u' : Nat) (pre' rest' : List Dg), Value.int .u32 ((u : Int) / 10) = .int .u32 (u' : Nat) ∧ pre' ++ rest' = toldD (gs.drop k) ∧ ((u' = 0 ∧ rest' = []) ∨ ∃ j, j ≤ 8 ∧ u' = pw j ∧ rest' = digsD j (lm gs k)) ∧ pre' = pre ++ [x] := by
  obtain ⟨r, e, hr2⟩ := digsD_pos j (lm gs k)
  refine ⟨u / 10, pre ++ [x], r, by congr 1, ?_, ?_, rfl⟩
  · have : x = ⟨lm gs k / pw j % 10, Nat.mod_lt _ (by decide)⟩ := Subtype.ext (by rw [hx, hu])
    rw [← hp, hr, e, this]; simp
  · rw [hu, pw_div]
    by_cases h0 : j = 0
    · rw [if_pos h0] at hr2 ⊢; exact .inl ⟨rfl, hr2⟩
    · rw [if_neg h0] at hr2 ⊢; exact .inr ⟨j - 1, by omega, rfl, hr2⟩

theorem digs_pre {gs : List Nat} {k j u : Nat} {pre rest : List Dg} {x : Dg} (hk : k ≤ gs.length) (hp : pre ++ rest = toldD (gs.drop k)) (hu : u = pw j) (hr : rest = digsD j (lm gs k)) (hx : x.1 = lm gs k / u % 10) :
    pre ++ [x] <+: toldD gs := by
  obtain ⟨r, e, _⟩ := digsD_pos j (lm gs k)
  refine List.IsPrefix.trans ⟨r, ?_⟩ (toldD_prefix gs k hk)
  have : x = ⟨lm gs k / pw j % 10, Nat.mod_lt _ (by decide)⟩ := Subtype.ext (by rw [hx, hu])
  rw [← hp, hr, e, this]; simp

/-- the unit at which the group k - 1 is begun -/
def un (gs : List Nat) (k : Nat) : Nat := if k = gs.length then pw (nd (lm gs (k - 1))) else 100000000
theorem un_jn (gs : List Nat) (k : Nat) : un gs (k + 1) = pw (jn gs k) := by
  unfold un jn; split <;> rfl
theorem un_low (gs : List Nat) (k : Nat) (h : k < gs.length) : un gs k = 100000000 := by
  unfold un; rw [if_neg (by omega)]

set_option maxRecDepth 100000 in
set_option maxHeartbeats 400000 in
theorem digits_any (v : Value) (xs : List Nat) (w : World) (h : Nums w v xs) (b1 : xs.length ≤ 1000000000) :
    Calls Tryd.prog 34 #[v] w fun e w' => ∃ bx gv, e = .returned (.func (.func 55) #[] #[.pointer (some ⟨bx, 0, none⟩)]) ∧ w.heap.size ≤ bx ∧ bx < w'.heap.size ∧ w'.cell? ⟨bx, 0, none⟩ = some gv ∧ Own w' w.heap.size gv (grp (val xs)) ∧ Below w.heap.size w w' := by
  go_enter Tryd.func34, Tryd.ntmps34
  go_wp2_with fail
  refine (groupsOf_any _ _ _ h b1).mono ?_
  rintro e w1 ⟨v1, rfl, hO1, hb1⟩
  have HO := hide hO1
  rcases hO1.2 with ⟨rfl, h0⟩ | ⟨g, cap, cur, rfl, _, _, _, _, _, _⟩
  · exact absurd (List.eq_nil_of_length_eq_zero h0) (grp_ne _)
  · clear hO1
    go_wp2
    go_ret
    refine ⟨_, _, rfl, hb1.size, by simp, ?_, HO.out.alloc _, hb1.alloc hb1.size _⟩
    simp

set_option maxRecDepth 100000 in
set_option maxHeartbeats 2000000 in
theorem digits1_in (n : Nat) (hn : 1 ≤ n) (l bx lo hi b off cap : Nat) (gs : List Nat) (hg : ∀ x ∈ gs, x < UU) (hne : gs ≠ []) (hm : gs.length ≤ 9223372036854775807)
    (hx1 : lo ≤ bx) (hx2 : bx < hi) (hb1 : lo ≤ b) (hb2 : b < hi) (J Jx : List Dg → World → Prop)
    (hY : ∀ pre x W, J pre W → pre.length < (toldD gs).length → YieldAt Fence.wide (n - 1) Tryd.prog l #[.int .i64 (x.1 : Nat)] W fun e W' =>
      (e = .returned (.bool true) ∧ J (pre ++ [x]) W' ∧ Keeps lo hi W W') ∨ (e = .returned (.bool false) ∧ Jx (pre ++ [x]) W'))
    (W : World) (hBx : W.cell? ⟨bx, 0, none⟩ = some (.slice (some ⟨b, off, none⟩) gs.length cap)) (hc : ∀ i, i < gs.length → W.cell? ⟨b, off + i, none⟩ = some (.int .u32 (lm gs i : Nat))) (h0 : J [] W) :
    CallsIn Fence.wide n Tryd.prog 55 #[.func (.yield l) #[] #[], .pointer (some ⟨bx, 0, none⟩)] W fun e W' => (∃ v, e = .returned v) ∧
      ((∃ ys, ys = toldD gs ∧ J ys W') ∨ (∃ pre, pre <+: toldD gs ∧ Jx pre W')) := by
  have hlen : 0 < gs.length := by cases gs with | nil => exact absurd rfl hne | cons _ _ => simp
  have hgl : ∀ i, i < gs.length → lm gs i < UU := fun i hi => by rw [lm_get _ _ hi]; exact hg _ (List.getElem_mem hi)
  have HGL := hide hgl
  have HC := hide hc
  have HX := hide hY
  have hct := hc (gs.length - 1) (by omega)
  have htop := hgl (gs.length - 1) (by omega)
  have HTOP := hide htop
  unfold UU at htop
  clear hgl hc hY hg
  refine callsIn_of_wp Tryd.func55 rfl trivial ?_ rfl
  simp only [Tryd.ntmps55, List.size_toArray, List.length_cons, List.length_nil, Nat.reduceAdd, Nat.reduceSub, Array.replicate_succ, Array.replicate_zero, List.push_toArray, List.append_toArray, List.nil_append, List.cons_append]
  gi_wp2_with fail
  refine ⟨trivial, ?_⟩
  refine (callsIn_wide.2 (firstUnit_any _ _ HTOP.out)).mono ?_
  rintro e w1 ⟨rfl, rfl⟩
  gi_wp2
  gi_loopw [3, 4] (fun uv iv wr => ∃ k : Nat, k ≤ gs.length ∧ iv = .int .i64 ((k : Int) - 1) ∧ uv = .int .u32 (un gs k : Nat) ∧ J (toldD (gs.drop k)) wr ∧ Keeps lo hi W wr) (fun _ iv _ => (intOf iv + 1).toNat)
  case atStart => exact ⟨gs.length, Nat.le_refl _, rfl, by unfold un; rw [if_pos rfl], by rw [List.drop_length]; exact h0, Keeps.refl _ _ _⟩
  case round =>
    obtain ⟨k, hk, rfl, rfl, hJ, hK⟩ := hrel
    cases k with
    | zero =>
      gi_wp2
      go_end0
      exact ⟨⟨_, rfl⟩, .inl ⟨_, rfl, by simpa using hJ⟩⟩
    | succ k =>
      rw [show (((k + 1 : Nat) : Int) - 1) = (k : Int) from by omega]
      have HT := hide (toldD_drop gs k (by omega))
      have HU := hide (un_jn gs k)
      have HJ := hide hJ
      have hgk := HGL.out k (by omega)
      have HGK := hide hgk
      unfold UU at hgk
      clear hJ
      have hj8 : Hid (jn gs k ≤ 8) := by show _ ≤ _; unfold jn; split; exact nd_le HGK.out; exact Nat.le_refl _
      have HK := hide hK
      clear hK
      gi_wp2
      gi_loopw [3] (fun uv wi => ∃ (u : Nat) (pre rest : List Dg), uv = .int .u32 u ∧ pre ++ rest = toldD (gs.drop k) ∧ ((u = 0 ∧ rest = []) ∨ ∃ j, j ≤ 8 ∧ u = pw j ∧ rest = digsD j (lm gs k)) ∧ J pre wi ∧ Keeps lo hi W wi) (fun uv _ => (intOf uv).toNat)
      case atStart => exact ⟨_, _, _, rfl, HT.out.symm, .inr ⟨_, hj8.out, HU.out, rfl⟩, HJ.out, HK.out⟩
      case round =>
        obtain ⟨u, pre, rest, rfl, hpre, hcase, hJ, hK⟩ := hrel
        have HP := hide hpre
        clear hpre
        rcases hcase with ⟨rfl, rfl⟩ | ⟨j, hj, hu, hr⟩
        · have HJ2 := hide hJ
          have HK2 := hide hK
          clear hJ hK
          gi_wp2
          go_roundw
          case rel => exact ⟨k, by omega, by go_num, by rw [un_low gs k (by omega)]; rfl, by rw [← HP.out, List.append_nil]; exact HJ2.out, HK2.out⟩
          case measure => simp [intOf]
        · have hu1 : 1 ≤ u := by rw [hu]; exact pw_pos j
          have hu2 : u ≤ 100000000 := by rw [hu]; exact pw_le hj
          have HUJ := hide hu
          have HR := hide hr
          clear hu hr
          have hcb : W.cell? ⟨bx, 0, none⟩ = _ := hBx
          have hbx' := (hK.cell (o := 0) hx1 hx2).trans hBx
          have hck' := (hK.cell (o := off + k) hb1 hb2).trans (HC.out k (by omega))
          have hq0 : (0 : Int) ≤ (lm gs k : Int) / (u : Int) := by rw [← Int.natCast_ediv]; exact Int.natCast_nonneg _
          have hq1 : (lm gs k : Int) / (u : Int) ≤ 999999999 := by rw [← Int.natCast_ediv]; have := Nat.div_le_self (lm gs k) u; omega
          obtain ⟨fn, tmps, assign, body, hy, hRd⟩ := HX.out pre ⟨lm gs k / u % 10, Nat.mod_lt _ (by decide)⟩ _ hJ (digs_room (by omega) HP.out HR.out)
          have hd : ((lm gs k / u % 10 : Nat) : Int) = (lm gs k : Int) / (u : Int) % 10 := by rw [Int.natCast_emod, Int.natCast_ediv]; rfl
          dsimp only at hy
          rw [hd] at hy
          have HRD := hide hRd
          have HK2 := hide hK
          clear hRd hd hJ hK hcb
          gi_wp2
          refine HRD.out.mono ?_
          rintro e W3 (⟨rfl, hJ3, hk3⟩ | ⟨rfl, hJx3⟩)
          · have HJ3 := hide hJ3
            have HK3 := hide (HK2.out.trans hk3)
            clear hJ3 hk3 hy
            gi_wp2
            go_roundw
            case rel =>
              obtain ⟨u', pre', rest', e1, e2, e3, e4⟩ := digs_next (x := ⟨lm gs k / u % 10, Nat.mod_lt _ (by decide)⟩) hj HP.out HUJ.out HR.out rfl
              exact ⟨u', pre', rest', e1, e2, e3, by rw [e4]; exact HJ3.out, HK3.out⟩
            case measure => simp [intOf]; omega
          · clear hy
            gi_wp2
            refine bodyPost_ret (results_none rfl _ _ _) rfl ?_
            exact ⟨⟨_, rfl⟩, .inr ⟨_, digs_pre (by omega) HP.out HUJ.out HR.out rfl, hJx3⟩⟩
end Go.Proofs.YtdafdfgkfkanjaaDoor
