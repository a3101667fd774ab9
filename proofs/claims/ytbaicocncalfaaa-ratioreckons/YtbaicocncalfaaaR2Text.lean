/- The document's answers for layer 2 (swageref02): Text. -/
import Derived.Test.YtbaicocncalfaaaTx
import Derived.Test.YtbaicocncalfaaaR2Div1
import Derived.RegionTactic
import Derived.BigRegion
import Derived.Laws.BytesArg
namespace Go.Proofs.Ytbaicocncalfaaa
open Go.RowKit

def byV (xs : List Nat) : List Value := xs.map fun (x : Nat) => Value.int .u8 (x : Int)
theorem byV_length (xs : List Nat) : (byV xs).length = xs.length := by simp [byV]
theorem byV_get (xs : List Nat) (i : Nat) (h : i < xs.length) : (byV xs)[i]? = some (.int .u8 (lm xs i : Nat)) := by
  simp [byV, lm, h]
theorem byV_set (xs : List Nat) (i x : Nat) : (byV xs).set i (.int .u8 (x : Nat)) = byV (xs.set i x) := by simp [byV, List.map_set]
/-- a list of bytes, owned -/
def OwnB (w : World) (base : Nat) (v : Value) (xs : List Nat) : Prop := w.ownsRow base 5 1 v xs.length (byV xs)
def RowB (w : World) (base g n cap : Nat) (xs : List Nat) : Prop := w.ownsRow base 5 1 (.slice (some ⟨g, 0, none⟩) n cap) n (byV xs)
theorem OwnB.lt {w : World} {base : Nat} {v : Value} {xs : List Nat} (h : OwnB w base v xs) : ∀ k, v.ownBlock = some k → base ≤ k ∧ k < w.heap.size := World.ownsRow.lt h
theorem OwnB.below {w w' : World} {base : Nat} {v : Value} {xs : List Nat} (h : OwnB w base v xs) (hb : Below w.heap.size w w') : OwnB w' base v xs := by
  unfold OwnB at *
  refine h.kept (row := none) ⟨hb.os, hb.tape, hb.output, hb.size, fun k hk _ => hb.block k hk⟩ ?_
  cases hv : v.ownBlock <;> simp
theorem OwnB.row {w : World} {base : Nat} {v : Value} {xs : List Nat} (h : OwnB w base v xs) (hp : 0 < xs.length) : ∃ g cap, v = .slice (some ⟨g, 0, none⟩) xs.length cap ∧ cap ≤ maxLen ∧ xs.length ≤ cap ∧ base ≤ g ∧ RowB w base g xs.length cap xs := by
  rcases h.2 with ⟨_, h0⟩ | ⟨g, cap, cur, rfl, hb, hg, hnc, hcm, hcs, ht⟩
  · omega
  · exact ⟨g, cap, rfl, hcm, hnc, hb, h⟩
theorem RowB.cell {w : World} {base g n cap : Nat} {xs : List Nat} (h : RowB w base g n cap xs) (hl : xs.length = n) (i : Nat) (hi : i < n) : w.cell? ⟨g, i, none⟩ = some (.int .u8 (lm xs i : Nat)) := by
  rw [World.ownsRow.cellAt h i (by omega), byV_get _ _ (by omega)]
theorem RowB.free {w : World} {base g n cap : Nat} {xs : List Nat} (h : RowB w base g n cap xs) (i : Nat) : w.frozen? ⟨g, i, none⟩ = false := World.ownsRow.frozenAt h i
theorem RowB.set {w : World} {base g n cap : Nat} {xs : List Nat} (h : RowB w base g n cap xs) (i x : Nat) : RowB (w.setCell ⟨g, i, none⟩ (.int .u8 (x : Nat))) base g n cap (xs.set i x) := by
  have := (World.ownsRow.stored h i (.int .u8 (x : Nat))).1
  rw [byV_set] at this; exact this
/-- one more byte behind what is owned -/
theorem ownb_step {w5 w6 w1 : World} {base T : Nat} {v5 v6 : Value} {acc : List Nat} {x : Int} {n : Nat} (hx : x = (n : Int)) {o : Obj} (hO : OwnB w5 base v5 acc)
    (hown6 : w6.ownsRow base 5 1 v6 (acc.length + 1) (byV acc ++ [Value.int .u8 x])) (hgrow6 : (w5.alloc o).grownBy w6 v5.ownBlock) (hB5 : Below T w1 w5) (hT : T ≤ w5.heap.size) (hb : T ≤ base) :
    OwnB w6 base v6 (acc ++ [n]) ∧ Below T w1 w6 := by
  constructor
  · subst hx
    have e1 : byV acc ++ [Value.int .u8 (n : Int)] = byV (acc ++ [n]) := by simp [byV]
    rw [e1] at hown6
    show World.ownsRow _ _ _ _ _ _ _; simpa using hown6
  · exact (hB5.alloc hT o).grown hgrow6 (by simp; omega) (fun k hk => Nat.le_trans hb (hO.lt k hk).1)
theorem apart {w : World} {b1 b2 : Nat} {u v : Value} {xs ys : List Nat} (h : Own w b1 u xs) (k : OwnB w b2 v ys) : u.ownBlock = none ∨ u.ownBlock ≠ v.ownBlock := by
  rcases h.2 with ⟨rfl, _⟩ | ⟨g, cap, cur, rfl, _, hg, _⟩
  · exact .inl rfl
  · rcases k.2 with ⟨rfl, _⟩ | ⟨g', cap', cur', rfl, _, hg', _⟩
    · exact .inr (by simp [Value.ownBlock])
    · refine .inr (fun e => ?_)
      simp only [Value.ownBlock, Option.some.injEq] at e
      subst e
      rw [hg] at hg'
      simp at hg'
/-- the low digits, low one first, as signs -/
def lowr (j N : Nat) : List Nat := (List.range j).map fun i => 48 + N / 10 ^ i % 10
theorem lowr_length (j N : Nat) : (lowr j N).length = j := by simp [lowr]
theorem lowr_succ (j N : Nat) : lowr (j + 1) N = lowr j N ++ [48 + N / 10 ^ j % 10] := by simp [lowr, List.range_succ]
theorem lowr_rev (k N : Nat) : (lowr (k + 1) N).reverse = (digs k N).map (48 + ·) := by
  apply List.ext_getElem?
  intro i
  by_cases h : i ≤ k
  · rw [List.getElem?_reverse (by rw [lowr_length]; omega), List.getElem?_map, digs_get k N i h, lowr_length]
    rw [lowr, List.getElem?_map, List.getElem?_range (by omega)]
    simp only [Option.map_some, show k + 1 - 1 - i = k - i by omega]
  · rw [List.getElem?_eq_none (by rw [List.length_reverse, lowr_length]; omega), List.getElem?_eq_none (by rw [List.length_map, digs_length]; omega)]

/-- i pairs swapped, from the ends on -/
def fl (xs : List Nat) : Nat → List Nat
  | 0 => xs
  | i + 1 => ((fl xs i).set i (lm xs (xs.length - 1 - i))).set (xs.length - 1 - i) (lm xs i)
theorem fl_length (xs : List Nat) (i : Nat) : (fl xs i).length = xs.length := by
  induction i with
  | zero => rfl
  | succ i ih => simp [fl, ih]
theorem fl_at (xs : List Nat) (i j : Nat) (hi : 2 * i ≤ xs.length) (hj : j < xs.length) : lm (fl xs i) j = if j < i ∨ xs.length - i ≤ j then lm xs (xs.length - 1 - j) else lm xs j := by
  induction i generalizing j with
  | zero => rw [if_neg (by omega)]; rfl
  | succ i ih =>
    have e1 : ∀ (ys : List Nat) (p x q : Nat), p < ys.length → lm (ys.set p x) q = if p = q then x else lm ys q := by
      intro ys p x q hp
      unfold lm
      rw [List.getD_eq_getElem?_getD, List.getD_eq_getElem?_getD, List.getElem?_set]
      by_cases h : p = q
      · subst h; simp [hp]
      · simp [h]
    rw [fl, e1 _ _ _ _ (by rw [List.length_set, fl_length]; omega), e1 _ _ _ _ (by rw [fl_length]; omega), ih j (by omega) hj]
    by_cases c1 : xs.length - 1 - i = j
    · rw [if_pos c1, if_pos (by omega)]; congr 1; omega
    · rw [if_neg c1]
      by_cases c2 : i = j
      · rw [if_pos c2, if_pos (by omega), c2]
      · rw [if_neg c2]
        by_cases c3 : j < i ∨ xs.length - i ≤ j
        · rw [if_pos c3, if_pos (by omega)]
        · rw [if_neg c3, if_neg (by omega)]
theorem fl_end (xs : List Nat) : fl xs (xs.length / 2) = xs.reverse := by
  apply List.ext_getElem (by rw [fl_length, List.length_reverse])
  intro j h1 h2
  rw [fl_length] at h1
  have := fl_at xs (xs.length / 2) j (by omega) h1
  rw [lm_get _ _ (by rw [fl_length]; exact h1)] at this
  rw [this, List.getElem_reverse]
  by_cases c : j < xs.length / 2 ∨ xs.length - xs.length / 2 ≤ j
  · rw [if_pos c, lm_get _ _ (by omega)]
  · rw [if_neg c, ← lm_get _ _ (by omega)]; congr 1; omega

theorem lowr_byts {N j : Nat} (hj : 0 < j) (h1 : N < 10 ^ j) (h2 : 10 ^ (j - 1) ≤ N) : (lowr j N).reverse = (dec N).map (48 + ·) := by
  obtain ⟨k, rfl⟩ : ∃ k, j = k + 1 := ⟨j - 1, by omega⟩
  rw [lowr_rev]
  unfold dec
  rw [nd_unique h1 (.inr h2)]
theorem byts_map (ds : List Nat) : (ds.map (48 + ·)).map (fun (x : Nat) => (x : Int)) = byts ds := by
  simp [byts]
/-- a number of so many digits to the base 65536 has no more decimal ones than that -/
theorem ddig_few {N j k : Nat} (h : (D.lim N).length ≤ k) (hj : j = 0 ∨ 10 ^ (j - 1) ≤ N) : j ≤ 16 * k + 1 := by
  rcases hj with h0 | h0
  · omega
  · have h1 : N < D.BB ^ k := by
      have := D.val_lt (D.ok_lim N)
      rw [D.val_lim] at this
      exact Nat.lt_of_lt_of_le this (Nat.pow_le_pow_right D.BB_pos h)
    have h2 : 2 ^ (j - 1) ≤ 10 ^ (j - 1) := Nat.pow_le_pow_left (by decide) _
    have h3 : D.BB ^ k = 2 ^ (16 * k) := by rw [show D.BB = 2 ^ 16 from rfl, ← Nat.pow_mul]
    have h4 : 2 ^ (j - 1) < 2 ^ (16 * k) := by rw [← h3]; exact Nat.lt_of_le_of_lt (Nat.le_trans h2 h0) h1
    have := (Nat.pow_lt_pow_iff_right (by decide)).1 h4
    omega
theorem dlim_digit {r : Nat} (h : r < 65536) (h0 : r ≠ 0) : D.lim r = [r] := by
  have hB : r < D.BB := h
  rw [D.lim_pos (Nat.pos_of_ne_zero h0), Nat.div_eq_of_lt hB, Nat.mod_eq_of_lt hB]; rfl

theorem Own.lower2 {w : World} {base base' : Nat} {v : Value} {xs : List Nat} (h : Own w base v xs) (hb : base' ≤ base) : Own w base' v xs := by
  refine ⟨h.1, ?_⟩
  rcases h.2 with k | ⟨g, cap, cur, e, hg, r⟩
  · exact .inl k
  · exact .inr ⟨g, cap, cur, e, Nat.le_trans hb hg, r⟩
def lenV : Value → Nat
  | .slice _ n _ => n
  | _ => 0
theorem OwnB.len {w : World} {base : Nat} {v : Value} {xs : List Nat} (h : OwnB w base v xs) : lenV v = xs.length := by
  rcases h.2 with ⟨rfl, h0⟩ | ⟨g, cap, cur, rfl, _⟩
  · exact h0.symm
  · rfl
theorem OwnB.nilOf {w : World} {base : Nat} {v : Value} (h : OwnB w base v []) (h0 : v.ownBlock = none) : v = .slice none 0 0 := by
  rcases h.2 with ⟨rfl, _⟩ | ⟨g, cap, cur, rfl, _⟩
  · rfl
  · simp [Value.ownBlock] at h0
theorem OwnB.shape {w : World} {base : Nat} {v : Value} {xs : List Nat} (h : OwnB w base v xs) : ∃ a c, v = .slice a xs.length c ∧ xs.length ≤ c ∧ c ≤ maxLen := by
  rcases h.2 with ⟨rfl, h0⟩ | ⟨g, cap, cur, rfl, _, _, h1, h2, _⟩
  · exact ⟨none, 0, by rw [h0], by omega, Nat.zero_le _⟩
  · exact ⟨_, cap, rfl, h1, h2⟩

set_option maxRecDepth 100000 in
set_option maxHeartbeats 4000000 in
theorem rtext2_any (v : Value) (z : Int) (w : World) (h : RInt w v z) (hl : (D.lim z.natAbs).length ≤ 1000000) :
    Calls Try.prog 22 #[v] w fun e w' => e = .returned (.string (itxt z)) ∧ Below w.heap.size w w' := by
  obtain ⟨i0, hi, hz0, hz1, hz2⟩ := info_parts Try.info5
  obtain ⟨b, N, a, c, rfl, hn, hz, h0⟩ := h
  rw [hz, sg_abs] at hl
  have HLE := hide hl
  have HT : Hid (itxt z = strOfNums ((if b then [45] else []) ++ byts (dec N))) := hide (by
    rw [hz]
    cases b with
    | false => have := itxt_pos N; simp only [Ending.returned.injEq, Value.string.injEq] at this; rw [← this]; rfl
    | true => have := itxt_neg N (fun e => absurd (h0 e) (by decide)); simp only [Ending.returned.injEq, Value.string.injEq] at this; rw [← this]; rfl)
  have HBX := hide (Box2.new w 30 (.bool b) (.slice a (D.lim N).length c))
  have HN := hide (hn.below (below_alloc w (.cells #[.bool b, .slice a (D.lim N).length c] 30)))
  have H0 := hide h0
  clear hn hl h0 hz
  have hbx0 := HBX.out.cell0
  have hbx1 := HBX.out.cell1
  go_enter Try.func22, Try.ntmps22
  go_wp2
  clear hbx0 hbx1
  go_loopw [3, 4, 5, 6, 7] (fun lv dv qv rv cv wr => ∃ j : Nat, OwnB wr (w.heap.size + 1) lv (lowr j N) ∧ Nums wr dv (D.lim (N / 10 ^ j)) ∧ (lv = .slice none 0 0 ∨ Own wr (w.heap.size + 1) dv (D.lim (N / 10 ^ j))) ∧ (j = 0 ∨ 10 ^ (j - 1) ≤ N) ∧ Below (w.heap.size + 1) (w.alloc (.cells #[.bool b, .slice a (D.lim N).length c] 30)) wr) (fun lv _ _ _ _ _ => 16 * 1000000 + 2 - lenV lv)
  case atStart => exact ⟨0, World.ownsRow_nil _ _ _ _, by simpa using HN.out, .inl rfl, .inl rfl, Below.refl _ _⟩
  case round =>
    obtain ⟨j, hO, hN, hA, hj, hbel⟩ := hrel
    obtain ⟨wo, rfl⟩ : ∃ wo, wo = wr := ⟨_, rfl⟩
    have HO := hide hO
    have HNd := hide hN
    have HA := hide hA
    have HJ := hide hj
    have HBE := hide hbel
    have HB2 := hide (HBX.out.below hbel (Nat.lt_succ_self _))
    have HBW := hide ((below_alloc w (.cells #[.bool b, .slice a (D.lim N).length c] 30)).trans (hbel.mono (Nat.le_succ _)))
    have hjb := ddig_few HLE.out hj
    obtain ⟨la, lc, hlv, hlc1, hlc2⟩ := hO.shape
    rw [lowr_length] at hlv hlc1
    subst hlv
    unfold maxLen at hlc2
    clear hO hA hj hbel
    by_cases hm0 : N / 10 ^ j = 0
    · have HM0 := hide hm0
      rw [hm0, D.lim_zero] at hN
      obtain ⟨_, da, dc, rfl, _, hmd, _⟩ := hN
      simp only [List.length_nil]
      clear hm0 hmd
      have HEND : Hid (j = 0 → N = 0) := hide (fun h => by have := HM0.out; rw [h] at this; simpa using this)
      have HLT : Hid (0 < j → (lowr j N).reverse = (dec N).map (48 + ·)) := hide (fun hj0 => by
        have hlt : N < 10 ^ j := by
          rcases Nat.lt_or_ge N (10 ^ j) with h | h
          · exact h
          · have := Nat.div_pos h (pow_pos10 j); have := HM0.out; omega
        exact lowr_byts hj0 hlt (by rcases HJ.out with h | h; omega; exact h))
      have hb0 := HB2.out.cell0
      by_cases hj0 : j = 0
      · subst hj0
        have e : N = 0 := HEND.out rfl
        subst e
        have hbf : b = false := H0.out rfl
        subst hbf
        go_wp2
        go_ret
        exact ⟨by rw [HT.out]; rfl, HBW.out⟩
      · have hjp : 0 < j := by omega
        have hjz : ((j : Int) == 0) = false := by rw [beq_eq_false_iff_ne]; omega
        cases b with
        | false =>
          obtain ⟨X, hX⟩ : ∃ X, X = lowr j N := ⟨_, rfl⟩
          have HX : Hid (OwnB wo (w.heap.size + 1) (.slice la j lc) X) := hide (by rw [hX]; exact HO.out)
          have HXN : Hid (X.length = j) := hide (by rw [hX, lowr_length])
          have HXL : Hid (X.length ≤ 16000001) := hide (by rw [hX, lowr_length]; omega)
          have HXR : Hid (X.reverse.map (fun (x : Nat) => (x : Int)) = (if false then [45] else []) ++ byts (dec N)) := hide (by rw [hX, HLT.out hjp, byts_map]; rfl)
          clear hX HO HNd HA HBE HB2
          obtain ⟨g, cap, he, hcm, hnc, hbg, hrow⟩ := HX.out.row (by have := HXN.out; omega)
          simp only [Value.slice.injEq] at he
          obtain ⟨rfl, hjX, rfl⟩ := he
          rw [hjX]
          clear hjX
          have HRW := hide hrow
          have HBG := hide hbg
          unfold maxLen at hcm
          obtain ⟨n, hn⟩ : ∃ n, n = X.length := ⟨_, rfl⟩
          have HNN := hide hn
          rw [← hn] at hnc hrow HRW ⊢
          have hnp : 0 < n := by have := HXN.out; omega
          have hnb : n ≤ 16000010 := by have := HXL.out; omega
          clear hrow hbg hn HX
          go_wp2
          go_loopw [8] (fun iv wr => ∃ i : Nat, i ≤ n / 2 ∧ iv = .int .i64 i ∧ RowB wr (w.heap.size + 1) g n lc (fl X i) ∧ Below w.heap.size w wr) (fun iv _ => n - (intOf iv).toNat)
          case atStart => exact ⟨0, Nat.zero_le _, rfl, HRW.out, HBW.out⟩
          case round =>
            clear HRW HBW
            obtain ⟨i, hi2, rfl, hrow, hbel⟩ := hrel
            have hfl : (fl X i).length = n := by rw [fl_length]; exact HNN.out.symm
            by_cases hlt : i < n / 2
            · have hc1 := hrow.cell hfl i (by omega)
              have hc2 := hrow.cell hfl (n - 1 - i) (by omega)
              rw [fl_at X i i (by have := HNN.out; omega) (by have := HNN.out; omega), if_neg (by have := HNN.out; omega)] at hc1
              rw [fl_at X i (n - 1 - i) (by have := HNN.out; omega) (by have := HNN.out; omega), if_neg (by have := HNN.out; omega)] at hc2
              have hf1 := hrow.free i
              have hf2 := hrow.free (n - 1 - i)
              have HRW := hide hrow
              have HBW := hide hbel
              have HFL := hide hfl
              clear hrow hbel hfl
              have ht : ((n : Int) - 1 - (i : Int)) = ((n - 1 - i : Nat) : Int) := by omega
              have hltI : (i : Int) < (n : Int) / 2 := by omega
              obtain ⟨p, hp⟩ : ∃ p, p = n - 1 - i := ⟨_, rfl⟩
              have HP := hide hp
              rw [← hp] at hc2 hf2 ht
              have hpn : p < n := by omega
              have hip : i < p := by omega
              have hin : i < n := by omega
              clear hp
              go_wp2
              go_region
              all_goals
                go_wp2
                go_roundw
                case rel =>
                  refine ⟨i + 1, by omega, by go_num, ?_, ?_⟩
                  · have h1 := (HRW.out.set i (lm X p)).set p (lm X i)
                    rw [HP.out, HNN.out] at h1
                    rw [HP.out, HNN.out]
                    exact h1
                  · exact ((HBW.out.setCell (p := ⟨g, i, none⟩) (by have := HBG.out; show _ ≤ g; omega) _).setCell (p := ⟨g, p, none⟩) (by have := HBG.out; show _ ≤ g; omega) _).drew
                case measure => simp [intOf]; omega
            · have e : i = n / 2 := by omega
              subst e
              have hfe := fl_end X
              rw [← HNN.out] at hfe
              rw [hfe] at hrow
              obtain ⟨Y, hY⟩ : ∃ Y, Y = X.reverse.map (fun (x : Nat) => (x : Int)) := ⟨_, rfl⟩
              have HY := hide hY
              have hconv := run_convert_bytes_arg (P := Try.prog) wr 94 5 Try.underlying94 Try.underlying5 g 0 n lc Y (by rw [hY, List.length_map, List.length_reverse]; exact HNN.out.symm) (by
                intro k hk
                have hk' : k < X.reverse.length := by rw [List.length_reverse, ← HNN.out]; exact hk
                rw [show 0 + k = k from by omega, World.ownsRow.cellAt hrow k (by omega), byV_get _ _ hk', hY]
                simp only [lm, List.getD_eq_getElem?_getD, List.getElem?_map, List.getElem?_eq_getElem hk']
                rfl) 9 Try.underlying9
              clear hY
              have HBW := hide hbel
              clear hrow hbel hfl hfe
              go_wp2
              go_ret
              refine ⟨?_, HBW.out⟩
              rw [HT.out, ← HXR.out, ← HY.out]
              rfl
        | true =>
          have hlen := lowr_length j N
          have hbs : w.heap.size + 1 ≤ wo.heap.size := by have := HBE.out.size; rw [World.size_alloc] at this; omega
          go_wp2_with (at_builtin; refine wpList_append_own _ rfl _ _ 94 rfl (w.heap.size + 1) 5 i0 (.int .u8 0) 1 1 Try.underlying94 hi hz0 hz1 hz2 rfl (by decide) _ _ _ rfl (World.ownsRow.alloc HO.out _) ⟨_, 0, none⟩ 1 1 [.int .u8 45] rfl rfl ?_ ?_ ?_ ?_ ?_ ?_)
          · rfl
          · unfold maxLen; omega
          · omega
          · first | omega | (simp; omega)
          · intro v6 w6 hown6 hgrow6 _
            skip
            obtain ⟨hO6, hB6⟩ := ownb_step (n := 45) rfl HO.out (by rw [lowr_length]; exact hown6) hgrow6 HBW.out (by have := HBE.out.size; rw [World.size_alloc] at this; omega) (Nat.le_succ _)
            obtain ⟨X, hX⟩ : ∃ X, X = lowr j N ++ [45] := ⟨_, rfl⟩
            have HX : Hid (OwnB w6 (w.heap.size + 1) v6 X) := hide (by rw [hX]; exact hO6)
            have HXN : Hid (X.length = j + 1) := hide (by rw [hX, List.length_append, lowr_length]; rfl)
            have HXL : Hid (X.length ≤ 16000002) := hide (by have := HXN.out; omega)
            have HXR : Hid (X.reverse.map (fun (x : Nat) => (x : Int)) = (if true then [45] else []) ++ byts (dec N)) := hide (by rw [hX, List.reverse_append, HLT.out hjp, List.map_append, byts_map]; rfl)
            have HBV := hide hB6
            clear hX HO HNd HA HBE HB2 HBW hown6 hgrow6 hO6 hB6 hb0
            have HBW := hide HBV.out
            clear HBV
            obtain ⟨g, cap, rfl, hcm, hnc, hbg, hrow⟩ := HX.out.row (by have := HXN.out; omega)
            have HRW := hide hrow
            have HBG := hide hbg
            unfold maxLen at hcm
            obtain ⟨n, hn⟩ : ∃ n, n = X.length := ⟨_, rfl⟩
            have HNN := hide hn
            rw [← hn] at hnc hrow HRW ⊢
            have hnp : 0 < n := by have := HXN.out; omega
            have hnb : n ≤ 16000010 := by have := HXL.out; omega
            clear hrow hbg hn HX
            go_wp2
            go_loopw [8] (fun iv wr => ∃ i : Nat, i ≤ n / 2 ∧ iv = .int .i64 i ∧ RowB wr (w.heap.size + 1) g n cap (fl X i) ∧ Below w.heap.size w wr) (fun iv _ => n - (intOf iv).toNat)
            case atStart => exact ⟨0, Nat.zero_le _, rfl, HRW.out, HBW.out⟩
            case round =>
              clear HRW HBW
              obtain ⟨i, hi2, rfl, hrow, hbel⟩ := hrel
              have hfl : (fl X i).length = n := by rw [fl_length]; exact HNN.out.symm
              by_cases hlt : i < n / 2
              · have hc1 := hrow.cell hfl i (by omega)
                have hc2 := hrow.cell hfl (n - 1 - i) (by omega)
                rw [fl_at X i i (by have := HNN.out; omega) (by have := HNN.out; omega), if_neg (by have := HNN.out; omega)] at hc1
                rw [fl_at X i (n - 1 - i) (by have := HNN.out; omega) (by have := HNN.out; omega), if_neg (by have := HNN.out; omega)] at hc2
                have hf1 := hrow.free i
                have hf2 := hrow.free (n - 1 - i)
                have HRW := hide hrow
                have HBW := hide hbel
                have HFL := hide hfl
                clear hrow hbel hfl
                have ht : ((n : Int) - 1 - (i : Int)) = ((n - 1 - i : Nat) : Int) := by omega
                have hltI : (i : Int) < (n : Int) / 2 := by omega
                obtain ⟨p, hp⟩ : ∃ p, p = n - 1 - i := ⟨_, rfl⟩
                have HP := hide hp
                rw [← hp] at hc2 hf2 ht
                have hpn : p < n := by omega
                have hip : i < p := by omega
                have hin : i < n := by omega
                clear hp
                go_wp2
                go_region
                all_goals
                  go_wp2
                  go_roundw
                  case rel =>
                    refine ⟨i + 1, by omega, by go_num, ?_, ?_⟩
                    · have h1 := (HRW.out.set i (lm X p)).set p (lm X i)
                      rw [HP.out, HNN.out] at h1
                      rw [HP.out, HNN.out]
                      exact h1
                    · exact ((HBW.out.setCell (p := ⟨g, i, none⟩) (by have := HBG.out; show _ ≤ g; omega) _).setCell (p := ⟨g, p, none⟩) (by have := HBG.out; show _ ≤ g; omega) _).drew
                  case measure => simp [intOf]; omega
              · have e : i = n / 2 := by omega
                subst e
                have hfe := fl_end X
                rw [← HNN.out] at hfe
                rw [hfe] at hrow
                obtain ⟨Y, hY⟩ : ∃ Y, Y = X.reverse.map (fun (x : Nat) => (x : Int)) := ⟨_, rfl⟩
                have HY := hide hY
                have hconv := run_convert_bytes_arg (P := Try.prog) wr 94 5 Try.underlying94 Try.underlying5 g 0 n cap Y (by rw [hY, List.length_map, List.length_reverse]; exact HNN.out.symm) (by
                  intro k hk
                  have hk' : k < X.reverse.length := by rw [List.length_reverse, ← HNN.out]; exact hk
                  rw [show 0 + k = k from by omega, World.ownsRow.cellAt hrow k (by omega), byV_get _ _ hk', hY]
                  simp only [lm, List.getD_eq_getElem?_getD, List.getElem?_map, List.getElem?_eq_getElem hk']
                  rfl) 9 Try.underlying9
                clear hY
                have HBW := hide hbel
                clear hrow hbel hfl hfe
                go_wp2
                go_ret
                refine ⟨?_, HBW.out⟩
                rw [HT.out, ← HXR.out, ← HY.out]
                rfl
    · have HM0 := hide (Nat.pos_of_ne_zero hm0)
      have HDM : Hid (N / 10 ^ (j + 1) = N / 10 ^ j / 10) := hide (by rw [Nat.pow_succ, Nat.div_div_eq_div_mul])
      have HDG : Hid (10 ^ j ≤ N) := hide (by
        rcases Nat.lt_or_ge N (10 ^ j) with h | h
        · rw [Nat.div_eq_of_lt h] at hm0; exact absurd rfl hm0
        · exact h)
      have hjb2 := ddig_few (j := j + 1) HLE.out (.inr (by simpa using HDG.out))
      have HLM : Hid ((D.lim (N / 10 ^ j)).length ≤ 1000000) := hide (Nat.le_trans (D.lim_length_le (Nat.lt_of_le_of_lt (Nat.div_le_self _ _) (by have := D.val_lt (D.ok_lim N); rw [D.val_lim] at this; exact this))) HLE.out)
      obtain ⟨m, hm⟩ : ∃ m, m = N / 10 ^ j := ⟨_, rfl⟩
      have HME := hide hm
      rw [← hm] at hN
      clear hm hm0
      rw [← HME.out] at HM0 HLM HDM HNd HA
      have hpl : 0 < (D.lim m).length := by rw [D.lim_pos HM0.out]; simp
      have hl6 := HLM.out
      obtain ⟨_, da, dc, rfl, hlc, hmc, hcc⟩ := hN
      unfold maxLen at hmc
      clear hcc
      generalize hL : (D.lim m).length = L at *
      go_wp2_with fail
      refine (rdiv1_any _ _ m 10 _ (HNd.out.below (below_alloc _ _)) (dnums_lit wo 10 10 rfl (by decide)).1 (by decide) (by decide) (by omega)).mono ?_
      rintro e w3 ⟨qv, rv, rfl, hq, hr, hb3⟩
      have hal := below_alloc wo (.cells #[.int .u32 10] 100)
      have hb3' := hal.trans (hb3.mono (by rw [World.size_alloc]; omega))
      have HQ := hide (Own.lower2 hq (base' := (w.heap.size + 1)) (by have := HBE.out.size; rw [World.size_alloc] at this ⊢; omega))
      replace HO := hide (HO.out.below hb3')
      replace HBW := hide (HBW.out.trans (hb3'.mono HBW.out.size))
      replace HBE := hide (HBE.out.trans (hb3'.mono (by have := HBE.out.size; rw [World.size_alloc] at this; omega)))
      have hlen := lowr_length j N
      have hbs : w.heap.size + 1 ≤ w3.heap.size := by have := HBE.out.size; rw [World.size_alloc] at this; omega
      have HRV := hide hr
      clear hq hr hb3 hal hb3' HNd HA HB2
      have hr10 : m % 10 < 10 := Nat.mod_lt _ (by decide)
      have HDD : Hid (N / 10 ^ j % 10 = m % 10) := hide (by rw [HME.out])
      obtain ⟨r, hr⟩ : ∃ r, r = m % 10 := ⟨_, rfl⟩
      rw [← hr] at HRV HDD hr10
      clear hr
      by_cases hr0 : r = 0
      · subst hr0
        have hrv := HRV.out
        rw [D.lim_zero] at hrv
        obtain ⟨_, ra, rc, rfl, _, hmr, _⟩ := hrv
        simp only [List.length_nil]
        clear hmr HRV
        go_wp2_with (at_builtin; refine wpList_append_own _ rfl _ _ 94 rfl (w.heap.size + 1) 5 i0 (.int .u8 0) 1 1 Try.underlying94 hi hz0 hz1 hz2 rfl (by decide) _ _ _ rfl (World.ownsRow.alloc HO.out _) ⟨_, 0, none⟩ 1 1 [.int .u8 (48)] rfl rfl ?_ ?_ ?_ ?_ ?_ ?_)
        · intro i u hi'
          match i, hi' with
          | 0, hi' => simp at hi'; subst hi'; simp [Addr.add]
        · intro u hu; simp at hu; subst hu; rfl
        · unfold maxLen; omega
        · omega
        · simp; omega
        · intro v6 w6 hown6 hgrow6 _
          have HQ6 := hide (World.ownsRow.kept (World.ownsRow.alloc HQ.out _) hgrow6 (by have := apart HQ.out HO.out; simpa using this))
          obtain ⟨hO6, hB6⟩ := ownb_step (x := 48) (n := (48 + 0)) (by omega) HO.out (by rw [lowr_length]; exact hown6) hgrow6 HBE.out (by have := HBE.out.size; rw [World.size_alloc] at this; omega) (Nat.le_refl _)
          have HO6 : Hid (OwnB w6 (w.heap.size + 1) v6 (lowr (j + 1) N)) := hide (by rw [lowr_succ, HDD.out]; exact hO6)
          have HB6 := hide hB6
          clear hown6 hgrow6 hO6 hB6
          go_wp2
          go_roundw
          case rel => exact ⟨j + 1, HO6.out, by rw [HDM.out]; exact Own.nums HQ6.out (dok (D.ok_lim _)), .inr (by rw [HDM.out]; exact HQ6.out), .inr (by simpa using HDG.out), HB6.out⟩
          case measure => rw [HO6.out.len, lowr_length]; simp only [lenV]; omega
      · have hrv := HRV.out
        rw [dlim_digit (by omega) hr0] at hrv
        obtain ⟨_, ra, rc, rfl, hrc, hmr, hcr⟩ := hrv
        obtain ⟨rb, ro, rfl, hcs⟩ := hcr (by simp)
        have hrc0 : w3.cell? ⟨rb, ro, none⟩ = some (.int .u32 (r : Nat)) := by have := hcs 0 (by simp); simpa [lm] using this
        simp only [List.length_cons, List.length_nil, Nat.zero_add] at hrc ⊢
        unfold maxLen at hmr
        clear hcr hcs HRV
        go_wp2_with (at_builtin; refine wpList_append_own _ rfl _ _ 94 rfl (w.heap.size + 1) 5 i0 (.int .u8 0) 1 1 Try.underlying94 hi hz0 hz1 hz2 rfl (by decide) _ _ _ rfl (World.ownsRow.alloc HO.out _) ⟨_, 0, none⟩ 1 1 [.int .u8 (48 + (r : Int))] rfl rfl ?_ ?_ ?_ ?_ ?_ ?_)
        · intro i u hi'
          match i, hi' with
          | 0, hi' => simp at hi'; subst hi'; simp [Addr.add]
        · intro u hu; simp at hu; subst hu; rfl
        · unfold maxLen; omega
        · omega
        · simp; omega
        · intro v6 w6 hown6 hgrow6 _
          have HQ6 := hide (World.ownsRow.kept (World.ownsRow.alloc HQ.out _) hgrow6 (by have := apart HQ.out HO.out; simpa using this))
          obtain ⟨hO6, hB6⟩ := ownb_step (x := 48 + (r : Int)) (n := (48 + r)) (by omega) HO.out (by rw [lowr_length]; exact hown6) hgrow6 HBE.out (by have := HBE.out.size; rw [World.size_alloc] at this; omega) (Nat.le_refl _)
          have HO6 : Hid (OwnB w6 (w.heap.size + 1) v6 (lowr (j + 1) N)) := hide (by rw [lowr_succ, HDD.out]; exact hO6)
          have HB6 := hide hB6
          clear hown6 hgrow6 hO6 hB6
          go_wp2
          go_roundw
          case rel => exact ⟨j + 1, HO6.out, by rw [HDM.out]; exact Own.nums HQ6.out (dok (D.ok_lim _)), .inr (by rw [HDM.out]; exact HQ6.out), .inr (by simpa using HDG.out), HB6.out⟩
          case measure => rw [HO6.out.len, lowr_length]; simp only [lenV]; omega
end Go.Proofs.Ytbaicocncalfaaa
