/- A variable that holds a number of the document's; how many digits numbers have; integer.Int's Times. -/
import Derived.Test.YtenmogmdijnlhaaDoorR2Num
import Derived.Test.YtenmogmdijnlhaaDoorDivOwn
namespace Go.Proofs.YtenmogmdijnlhaaDoor
open Go.RowKit

/-- a sum's state behind k digits -/
structure PlusAt (xs ys : List Nat) (k c : Nat) (acc : List Nat) : Prop where
  len : acc.length = k
  ok : D.Ok acc
  c1 : c ≤ 1
  sum : D.val acc + 65536 ^ k * c = D.val (xs.take k) + D.val (ys.take k)
theorem PlusAt.start (xs ys : List Nat) : PlusAt xs ys 0 0 [] := ⟨rfl, D.Ok.nil, by decide, by simp [D.val]⟩
theorem PlusAt.step {xs ys : List Nat} {k c : Nat} {acc : List Nat} (h : PlusAt xs ys k c acc) (hx : D.Ok xs) (hy : D.Ok ys) : PlusAt xs ys (k + 1) ((c + lm xs k + lm ys k) / 65536) (acc ++ [(c + lm xs k + lm ys k) % 65536]) := by
  have h1 := dlm_lt hx k
  have h2 := dlm_lt hy k
  have h3 := h.c1
  refine ⟨by rw [List.length_append, h.len]; rfl, h.ok.append (D.Ok.cons (Nat.mod_lt _ (by decide)) D.Ok.nil), by omega, ?_⟩
  rw [D.val_append, h.len, dtake_succ, dtake_succ, Nat.pow_succ]
  simp only [D.val, Nat.mul_zero, Nat.add_zero]
  show D.val acc + 65536 ^ k * ((c + lm xs k + lm ys k) % 65536) + 65536 ^ k * 65536 * ((c + lm xs k + lm ys k) / 65536) = _
  have e := Nat.mod_add_div (c + lm xs k + lm ys k) 65536
  have e1 : 65536 ^ k * ((c + lm xs k + lm ys k) % 65536) + 65536 ^ k * 65536 * ((c + lm xs k + lm ys k) / 65536) = 65536 ^ k * c + 65536 ^ k * lm xs k + 65536 ^ k * lm ys k := by
    rw [Nat.mul_assoc, ← Nat.mul_add, e, Nat.mul_add, Nat.mul_add]
  have := h.sum
  omega
theorem PlusAt.last {xs ys : List Nat} {k : Nat} {acc : List Nat} (h : PlusAt xs ys k 0 acc) (h1 : xs.length ≤ k) (h2 : ys.length ≤ k) : D.val acc = D.val xs + D.val ys := by
  have := h.sum
  rw [List.take_of_length_le h1, List.take_of_length_le h2] at this
  simpa using this

set_option maxRecDepth 100000 in
set_option maxHeartbeats 4000000 in
theorem rplus_any (v1 v2 : Value) (xs ys : List Nat) (w : World) (h1 : Nums w v1 xs) (h2 : Nums w v2 ys) (hx : D.Ok xs) (hy : D.Ok ys) (b1 : xs.length ≤ 100000000) (b2 : ys.length ≤ 100000000) :
    Calls Tryd.prog 120 #[v1, v2] w fun e w' => ∃ v' acc, e = .returned v' ∧ Nums w' v' acc ∧ D.Ok acc ∧ D.val acc = D.val xs + D.val ys ∧ Below w.heap.size w w' := by
  obtain ⟨i0, hi, hz0, hz1, hz2⟩ := info_parts Tryd.info87
  have HX := hide hx
  have HY := hide hy
  have HN1 := hide h1
  have HN2 := hide h2
  obtain ⟨_, a1, c1, rfl, _, hm1, _⟩ := h1
  obtain ⟨_, a2, c2, rfl, _, hm2, _⟩ := h2
  clear hx hy
  unfold maxLen at hm1 hm2
  go_enter Tryd.func120, Tryd.ntmps120
  go_wp2
  go_loopw [5, 6, 7] (fun ov cv iv wr => ∃ (k c : Nat) (acc : List Nat), k ≤ xs.length + ys.length + 1 ∧ iv = .int .i64 k ∧ cv = .int .u32 c ∧ c ≤ 1 ∧ Hid (c = 0 ∨ k ≤ xs.length ∨ k ≤ ys.length) ∧ PlusAt xs ys k c acc ∧ Own wr w.heap.size ov acc ∧ Below w.heap.size w wr) (fun _ cv iv _ => 2 * (xs.length + ys.length) + 3 - 2 * (intOf iv).toNat + (intOf cv).toNat)
  case atStart => exact ⟨0, 0, [], by omega, rfl, rfl, by omega, .inl rfl, PlusAt.start xs ys, World.ownsRow_nil _ _ _ _, Below.refl _ _⟩
  case round =>
    obtain ⟨k, c, acc, hk, rfl, rfl, hc1, HD, hat, hO, hbel⟩ := hrel
    have HAT := hide hat
    have HO := hide hO
    have HBE := hide hbel
    have hal : acc.length ≤ 200000001 := by rw [hat.len]; omega
    have hdx := dlm_lt HX.out k
    have hdy := dlm_lt HY.out k
    have hbs := hbel.size
    clear hat hO hbel
    by_cases hlx : k < xs.length
    · obtain ⟨B1, o1, rfl, hc1'⟩ : ∃ B o, a1 = some ⟨B, o, none⟩ ∧ wr.cell? ⟨B, o + k, none⟩ = some (.int .u32 (lm xs k : Nat)) := by
        obtain ⟨_, a', c', he, _, _, h3⟩ := HN1.out.below HBE.out
        simp only [Value.slice.injEq] at he
        obtain ⟨rfl, _, rfl⟩ := he
        obtain ⟨b, off, rfl, hc⟩ := h3 (ne_nil hlx)
        exact ⟨b, off, rfl, hc k hlx⟩
      by_cases hly : k < ys.length
      · obtain ⟨B2, o2, rfl, hc2'⟩ : ∃ B o, a2 = some ⟨B, o, none⟩ ∧ wr.cell? ⟨B, o + k, none⟩ = some (.int .u32 (lm ys k : Nat)) := by
          obtain ⟨_, a', c', he, _, _, h3⟩ := HN2.out.below HBE.out
          simp only [Value.slice.injEq] at he
          obtain ⟨rfl, _, rfl⟩ := he
          obtain ⟨b, off, rfl, hc⟩ := h3 (ne_nil hly)
          exact ⟨b, off, rfl, hc k hly⟩
        go_wp2_with (at_builtin; refine wpList_append_own _ rfl _ _ 54 rfl w.heap.size 87 i0 (.int .u32 0) 1 4 Tryd.underlying54 hi hz0 hz1 hz2 rfl (by decide) _ _ _ rfl (World.ownsRow.alloc HO.out _) ⟨_, 0, none⟩ 1 1 [.int .u32 (((c : Int) + (lm xs k : Int) + (lm ys k : Int)) % 65536)] rfl rfl ?_ ?_ ?_ ?_ ?_ ?_)
        · intro i u hi'
          match i, hi' with
          | 0, hi' => simp at hi'; subst hi'; simp [Addr.add]
        · intro u hu; simp at hu; subst hu; rfl
        · unfold maxLen; omega
        · omega
        · simp; omega
        · intro v6 w6 hown6 hgrow6 _
          obtain ⟨hO6, hB6⟩ := own_step (n := (c + lm xs k + lm ys k) % 65536) (by omega) HO.out hown6 hgrow6 HBE.out hbs (Nat.le_refl _)
          have HO6 := hide hO6
          have HB6 := hide hB6
          clear hown6 hgrow6 hO6 hB6
          go_wp2
          go_roundw
          case rel => exact ⟨k + 1, (c + lm xs k + lm ys k) / 65536, _, by omega, by go_num, congrArg (Value.int .u32) (by omega), by omega, .inr (.inl (by omega)), HAT.out.step HX.out HY.out, HO6.out, HB6.out⟩
          case measure => simp [intOf]; omega
      · have HZY := hide (lm_over ys k (by omega))
        go_wp2_with (at_builtin; refine wpList_append_own _ rfl _ _ 54 rfl w.heap.size 87 i0 (.int .u32 0) 1 4 Tryd.underlying54 hi hz0 hz1 hz2 rfl (by decide) _ _ _ rfl (World.ownsRow.alloc HO.out _) ⟨_, 0, none⟩ 1 1 [.int .u32 (((c : Int) + (lm xs k : Int)) % 65536)] rfl rfl ?_ ?_ ?_ ?_ ?_ ?_)
        · intro i u hi'
          match i, hi' with
          | 0, hi' => simp at hi'; subst hi'; simp [Addr.add]
        · intro u hu; simp at hu; subst hu; rfl
        · unfold maxLen; omega
        · omega
        · simp; omega
        · intro v6 w6 hown6 hgrow6 _
          obtain ⟨hO6, hB6⟩ := own_step (n := (c + lm xs k + lm ys k) % 65536) (by have := HZY.out; omega) HO.out hown6 hgrow6 HBE.out hbs (Nat.le_refl _)
          have HO6 := hide hO6
          have HB6 := hide hB6
          clear hown6 hgrow6 hO6 hB6
          go_wp2
          go_roundw
          case rel => exact ⟨k + 1, (c + lm xs k + lm ys k) / 65536, _, by omega, by go_num, congrArg (Value.int .u32) (by have := HZY.out; omega), by omega, .inr (.inl (by omega)), HAT.out.step HX.out HY.out, HO6.out, HB6.out⟩
          case measure => simp [intOf]; omega
    · by_cases hly : k < ys.length
      · obtain ⟨B2, o2, rfl, hc2'⟩ : ∃ B o, a2 = some ⟨B, o, none⟩ ∧ wr.cell? ⟨B, o + k, none⟩ = some (.int .u32 (lm ys k : Nat)) := by
          obtain ⟨_, a', c', he, _, _, h3⟩ := HN2.out.below HBE.out
          simp only [Value.slice.injEq] at he
          obtain ⟨rfl, _, rfl⟩ := he
          obtain ⟨b, off, rfl, hc⟩ := h3 (ne_nil hly)
          exact ⟨b, off, rfl, hc k hly⟩
        have HZX := hide (lm_over xs k (by omega))
        go_wp2_with (at_builtin; refine wpList_append_own _ rfl _ _ 54 rfl w.heap.size 87 i0 (.int .u32 0) 1 4 Tryd.underlying54 hi hz0 hz1 hz2 rfl (by decide) _ _ _ rfl (World.ownsRow.alloc HO.out _) ⟨_, 0, none⟩ 1 1 [.int .u32 (((c : Int) + (lm ys k : Int)) % 65536)] rfl rfl ?_ ?_ ?_ ?_ ?_ ?_)
        · intro i u hi'
          match i, hi' with
          | 0, hi' => simp at hi'; subst hi'; simp [Addr.add]
        · intro u hu; simp at hu; subst hu; rfl
        · unfold maxLen; omega
        · omega
        · simp; omega
        · intro v6 w6 hown6 hgrow6 _
          obtain ⟨hO6, hB6⟩ := own_step (n := (c + lm xs k + lm ys k) % 65536) (by have := HZX.out; omega) HO.out hown6 hgrow6 HBE.out hbs (Nat.le_refl _)
          have HO6 := hide hO6
          have HB6 := hide hB6
          clear hown6 hgrow6 hO6 hB6
          go_wp2
          go_roundw
          case rel => exact ⟨k + 1, (c + lm xs k + lm ys k) / 65536, _, by omega, by go_num, congrArg (Value.int .u32) (by have := HZX.out; omega), by omega, .inr (.inr (by omega)), HAT.out.step HX.out HY.out, HO6.out, HB6.out⟩
          case measure => simp [intOf]; omega
      · by_cases hc0 : 0 < c
        · have HZX := hide (lm_over xs k (by omega))
          have HZY := hide (lm_over ys k (by omega))
          go_wp2_with (at_builtin; refine wpList_append_own _ rfl _ _ 54 rfl w.heap.size 87 i0 (.int .u32 0) 1 4 Tryd.underlying54 hi hz0 hz1 hz2 rfl (by decide) _ _ _ rfl (World.ownsRow.alloc HO.out _) ⟨_, 0, none⟩ 1 1 [.int .u32 (((c : Int)) % 65536)] rfl rfl ?_ ?_ ?_ ?_ ?_ ?_)
          · intro i u hi'
            match i, hi' with
            | 0, hi' => simp at hi'; subst hi'; simp [Addr.add]
          · intro u hu; simp at hu; subst hu; rfl
          · unfold maxLen; omega
          · omega
          · simp; omega
          · intro v6 w6 hown6 hgrow6 _
            obtain ⟨hO6, hB6⟩ := own_step (n := (c + lm xs k + lm ys k) % 65536) (by have := HZX.out; have := HZY.out; omega) HO.out hown6 hgrow6 HBE.out hbs (Nat.le_refl _)
            have HO6 := hide hO6
            have HB6 := hide hB6
            clear hown6 hgrow6 hO6 hB6
            go_wp2
            go_roundw
            case rel => exact ⟨k + 1, (c + lm xs k + lm ys k) / 65536, _, by rcases HD.out with h | h | h <;> omega, by go_num, congrArg (Value.int .u32) (by have := HZX.out; have := HZY.out; omega), by omega, .inl (by have := HZX.out; have := HZY.out; omega), HAT.out.step HX.out HY.out, HO6.out, HB6.out⟩
            case measure => simp [intOf]; omega
        · have e : c = 0 := by omega
          subst e
          go_wp2
          go_ret
          exact ⟨_, rfl, acc, HO.out.nums (dok HAT.out.ok), HAT.out.ok, HAT.out.last (by omega) (by omega), HBE.out⟩

/-- a difference's state behind k digits -/
structure MinusAt (xs ys : List Nat) (k b : Nat) (acc : List Nat) : Prop where
  len : acc.length = k
  ok : D.Ok acc
  b1 : b ≤ 1
  sum : D.val acc + D.val (ys.take k) = D.val (xs.take k) + 65536 ^ k * b
theorem MinusAt.start (xs ys : List Nat) : MinusAt xs ys 0 0 [] := ⟨rfl, D.Ok.nil, by decide, by simp [D.val]⟩
theorem MinusAt.yes {xs ys : List Nat} {k b : Nat} {acc : List Nat} (h : MinusAt xs ys k b acc) (hx : D.Ok xs) (hy : D.Ok ys) (hlt : lm xs k < b + lm ys k) : MinusAt xs ys (k + 1) 1 (acc ++ [lm xs k + 65536 - (b + lm ys k)]) := by
  have h1 := dlm_lt hx k
  have h2 := dlm_lt hy k
  have h3 := h.b1
  refine ⟨by rw [List.length_append, h.len]; rfl, h.ok.append (D.Ok.cons (by unfold D.BB; omega) D.Ok.nil), by omega, ?_⟩
  rw [D.val_append, h.len, dtake_succ, dtake_succ, Nat.pow_succ]
  simp only [D.val, Nat.mul_zero, Nat.add_zero]
  show D.val acc + 65536 ^ k * (lm xs k + 65536 - (b + lm ys k)) + (D.val (ys.take k) + 65536 ^ k * lm ys k) = D.val (xs.take k) + 65536 ^ k * lm xs k + 65536 ^ k * 65536 * 1
  obtain ⟨d, hd⟩ : ∃ d, d + (b + lm ys k) = lm xs k + 65536 := ⟨lm xs k + 65536 - (b + lm ys k), by omega⟩
  rw [← hd, Nat.add_sub_cancel, Nat.mul_one]
  have e : 65536 ^ k * d + (65536 ^ k * b + 65536 ^ k * lm ys k) = 65536 ^ k * lm xs k + 65536 ^ k * 65536 := by rw [← Nat.mul_add, ← Nat.mul_add, hd, Nat.mul_add]
  have := h.sum
  omega
theorem MinusAt.no {xs ys : List Nat} {k b : Nat} {acc : List Nat} (h : MinusAt xs ys k b acc) (hx : D.Ok xs) (hy : D.Ok ys) (hlt : ¬ lm xs k < b + lm ys k) : MinusAt xs ys (k + 1) 0 (acc ++ [lm xs k - (b + lm ys k)]) := by
  have h1 := dlm_lt hx k
  have h2 := dlm_lt hy k
  refine ⟨by rw [List.length_append, h.len]; rfl, h.ok.append (D.Ok.cons (by unfold D.BB; omega) D.Ok.nil), by omega, ?_⟩
  rw [D.val_append, h.len, dtake_succ, dtake_succ]
  simp only [D.val, Nat.mul_zero, Nat.add_zero]
  show D.val acc + 65536 ^ k * (lm xs k - (b + lm ys k)) + (D.val (ys.take k) + 65536 ^ k * lm ys k) = D.val (xs.take k) + 65536 ^ k * lm xs k
  obtain ⟨d, hd⟩ : ∃ d, d + (b + lm ys k) = lm xs k := ⟨lm xs k - (b + lm ys k), by omega⟩
  rw [← hd, Nat.add_sub_cancel]
  have e : 65536 ^ k * d + (65536 ^ k * b + 65536 ^ k * lm ys k) = 65536 ^ k * (d + (b + lm ys k)) := by rw [← Nat.mul_add, ← Nat.mul_add]
  have := h.sum
  omega
theorem MinusAt.last {xs ys : List Nat} {b : Nat} {acc : List Nat} (h : MinusAt xs ys xs.length b acc) (hl : ys.length ≤ xs.length) (hle : D.val ys ≤ D.val xs) : D.val acc = D.val xs - D.val ys := by
  have h1 := h.sum
  rw [List.take_length, List.take_of_length_le hl] at h1
  have h2 := D.val_lt h.ok
  rw [h.len] at h2
  have h3 : D.BB ^ xs.length = 65536 ^ xs.length := rfl
  rcases Nat.le_one_iff_eq_zero_or_eq_one.1 h.b1 with e | e
  · rw [e, Nat.mul_zero] at h1; omega
  · rw [e, Nat.mul_one] at h1; omega

set_option maxRecDepth 100000 in
set_option maxHeartbeats 4000000 in
theorem rminus_own (v1 v2 : Value) (xs ys : List Nat) (w : World) (h1 : Nums w v1 xs) (h2 : Nums w v2 ys) (hx : D.Ok xs) (hy : D.Ok ys) (b1 : xs.length ≤ 100000000) (hl : ys.length ≤ xs.length) (hle : D.val ys ≤ D.val xs) :
    Calls Tryd.prog 80 #[v1, v2] w fun e w' => ∃ v' acc, e = .returned v' ∧ Own w' w.heap.size v' acc ∧ D.Ok acc ∧ D.val acc = D.val xs - D.val ys ∧ Below w.heap.size w w' := by
  obtain ⟨i0, hi, hz0, hz1, hz2⟩ := info_parts Tryd.info87
  have HX := hide hx
  have HY := hide hy
  have HLY := hide hl
  have HLE := hide hle
  have HN1 := hide h1
  have HN2 := hide h2
  obtain ⟨_, a1, c1, rfl, _, hm1, _⟩ := h1
  obtain ⟨_, a2, c2, rfl, _, hm2, _⟩ := h2
  clear hx hy hle
  unfold maxLen at hm1 hm2
  go_enter Tryd.func80, Tryd.ntmps80
  go_wp2
  go_loopw [5, 6, 7] (fun ov cv iv wr => ∃ (k c : Nat) (acc : List Nat), k ≤ xs.length ∧ iv = .int .i64 k ∧ cv = .int .u32 c ∧ c ≤ 1 ∧ MinusAt xs ys k c acc ∧ Own wr w.heap.size ov acc ∧ Below w.heap.size w wr) (fun _ _ iv _ => xs.length - (intOf iv).toNat)
  case atStart => exact ⟨0, 0, [], by omega, rfl, rfl, by omega, MinusAt.start xs ys, World.ownsRow_nil _ _ _ _, Below.refl _ _⟩
  case round =>
    obtain ⟨k, c, acc, hk, rfl, rfl, hc1, hat, hO, hbel⟩ := hrel
    have HAT := hide hat
    have HO := hide hO
    have HBE := hide hbel
    have hal : acc.length ≤ 100000001 := by rw [hat.len]; omega
    have hdx := dlm_lt HX.out k
    have hdy := dlm_lt HY.out k
    have hbs := hbel.size
    clear hat hO hbel
    by_cases hlx : k < xs.length
    · obtain ⟨B1, o1, rfl, hc1'⟩ : ∃ B o, a1 = some ⟨B, o, none⟩ ∧ wr.cell? ⟨B, o + k, none⟩ = some (.int .u32 (lm xs k : Nat)) := by
        obtain ⟨_, a', c', he, _, _, h3⟩ := HN1.out.below HBE.out
        simp only [Value.slice.injEq] at he
        obtain ⟨rfl, _, rfl⟩ := he
        obtain ⟨b, off, rfl, hc⟩ := h3 (ne_nil hlx)
        exact ⟨b, off, rfl, hc k hlx⟩
      by_cases hly : k < ys.length
      · obtain ⟨B2, o2, rfl, hc2'⟩ : ∃ B o, a2 = some ⟨B, o, none⟩ ∧ wr.cell? ⟨B, o + k, none⟩ = some (.int .u32 (lm ys k : Nat)) := by
          obtain ⟨_, a', c', he, _, _, h3⟩ := HN2.out.below HBE.out
          simp only [Value.slice.injEq] at he
          obtain ⟨rfl, _, rfl⟩ := he
          obtain ⟨b, off, rfl, hc⟩ := h3 (ne_nil hly)
          exact ⟨b, off, rfl, hc k hly⟩
        by_cases hbo : lm xs k < c + lm ys k
        · have hboI : (lm xs k : Int) < (c : Int) + (lm ys k : Int) := by omega
          go_wp2_with (at_builtin; refine wpList_append_own _ rfl _ _ 54 rfl w.heap.size 87 i0 (.int .u32 0) 1 4 Tryd.underlying54 hi hz0 hz1 hz2 rfl (by decide) _ _ _ rfl (World.ownsRow.alloc HO.out _) ⟨_, 0, none⟩ 1 1 [.int .u32 ((lm xs k : Int) + 65536 - ((c : Int) + (lm ys k : Int)))] rfl rfl ?_ ?_ ?_ ?_ ?_ ?_)
          · intro i u hi'
            match i, hi' with
            | 0, hi' => simp at hi'; subst hi'; simp [Addr.add]
          · intro u hu; simp at hu; subst hu; rfl
          · unfold maxLen; omega
          · omega
          · simp; omega
          · intro v6 w6 hown6 hgrow6 _
            obtain ⟨hO6, hB6⟩ := own_step (n := lm xs k + 65536 - (c + lm ys k)) (by omega) HO.out hown6 hgrow6 HBE.out hbs (Nat.le_refl _)
            have HO6 := hide hO6
            have HB6 := hide hB6
            clear hown6 hgrow6 hO6 hB6
            go_wp2
            go_roundw
            case rel => exact ⟨k + 1, 1, _, by omega, by go_num, rfl, by omega, HAT.out.yes HX.out HY.out (by omega), HO6.out, HB6.out⟩
            case measure => simp [intOf]; omega
        · have hboI : ¬ (lm xs k : Int) < (c : Int) + (lm ys k : Int) := by omega
          go_wp2_with (at_builtin; refine wpList_append_own _ rfl _ _ 54 rfl w.heap.size 87 i0 (.int .u32 0) 1 4 Tryd.underlying54 hi hz0 hz1 hz2 rfl (by decide) _ _ _ rfl (World.ownsRow.alloc HO.out _) ⟨_, 0, none⟩ 1 1 [.int .u32 ((lm xs k : Int) - ((c : Int) + (lm ys k : Int)))] rfl rfl ?_ ?_ ?_ ?_ ?_ ?_)
          · rfl
          · unfold maxLen; omega
          · omega
          · first | omega | (simp; omega)
          · intro v6 w6 hown6 hgrow6 _
            obtain ⟨hO6, hB6⟩ := own_step (n := lm xs k - (c + lm ys k)) (by omega) HO.out hown6 hgrow6 HBE.out hbs (Nat.le_refl _)
            have HO6 := hide hO6
            have HB6 := hide hB6
            clear hown6 hgrow6 hO6 hB6
            go_wp2
            go_roundw
            case rel => exact ⟨k + 1, 0, _, by omega, by go_num, rfl, by omega, HAT.out.no HX.out HY.out (by omega), HO6.out, HB6.out⟩
            case measure => simp [intOf]; omega
      · by_cases hbo : lm xs k < c
        · have hboI : (lm xs k : Int) < (c : Int) := by omega
          have HZY := hide (lm_over ys k (by omega))
          go_wp2_with (at_builtin; refine wpList_append_own _ rfl _ _ 54 rfl w.heap.size 87 i0 (.int .u32 0) 1 4 Tryd.underlying54 hi hz0 hz1 hz2 rfl (by decide) _ _ _ rfl (World.ownsRow.alloc HO.out _) ⟨_, 0, none⟩ 1 1 [.int .u32 ((lm xs k : Int) + 65536 - (c : Int))] rfl rfl ?_ ?_ ?_ ?_ ?_ ?_)
          · intro i u hi'
            match i, hi' with
            | 0, hi' => simp at hi'; subst hi'; simp [Addr.add]
          · intro u hu; simp at hu; subst hu; rfl
          · unfold maxLen; omega
          · omega
          · simp; omega
          · intro v6 w6 hown6 hgrow6 _
            obtain ⟨hO6, hB6⟩ := own_step (n := lm xs k + 65536 - (c + lm ys k)) (by have := HZY.out; omega) HO.out hown6 hgrow6 HBE.out hbs (Nat.le_refl _)
            have HO6 := hide hO6
            have HB6 := hide hB6
            clear hown6 hgrow6 hO6 hB6
            go_wp2
            go_roundw
            case rel => exact ⟨k + 1, 1, _, by omega, by go_num, rfl, by omega, HAT.out.yes HX.out HY.out (by have := HZY.out; omega), HO6.out, HB6.out⟩
            case measure => simp [intOf]; omega
        · have hboI : ¬ (lm xs k : Int) < (c : Int) := by omega
          have HZY := hide (lm_over ys k (by omega))
          go_wp2_with (at_builtin; refine wpList_append_own _ rfl _ _ 54 rfl w.heap.size 87 i0 (.int .u32 0) 1 4 Tryd.underlying54 hi hz0 hz1 hz2 rfl (by decide) _ _ _ rfl (World.ownsRow.alloc HO.out _) ⟨_, 0, none⟩ 1 1 [.int .u32 ((lm xs k : Int) - (c : Int))] rfl rfl ?_ ?_ ?_ ?_ ?_ ?_)
          · rfl
          · unfold maxLen; omega
          · omega
          · first | omega | (simp; omega)
          · intro v6 w6 hown6 hgrow6 _
            obtain ⟨hO6, hB6⟩ := own_step (n := lm xs k - (c + lm ys k)) (by have := HZY.out; omega) HO.out hown6 hgrow6 HBE.out hbs (Nat.le_refl _)
            have HO6 := hide hO6
            have HB6 := hide hB6
            clear hown6 hgrow6 hO6 hB6
            go_wp2
            go_roundw
            case rel => exact ⟨k + 1, 0, _, by omega, by go_num, rfl, by omega, HAT.out.no HX.out HY.out (by have := HZY.out; omega), HO6.out, HB6.out⟩
            case measure => simp [intOf]; omega
    · have e : k = xs.length := by omega
      subst e
      go_wp2
      go_ret
      exact ⟨_, acc, rfl, HO.out, HAT.out.ok, HAT.out.last HLY.out HLE.out, HBE.out⟩
theorem rminus_any (v1 v2 : Value) (xs ys : List Nat) (w : World) (h1 : Nums w v1 xs) (h2 : Nums w v2 ys) (hx : D.Ok xs) (hy : D.Ok ys) (b1 : xs.length ≤ 100000000) (hl : ys.length ≤ xs.length) (hle : D.val ys ≤ D.val xs) :
    Calls Tryd.prog 80 #[v1, v2] w fun e w' => ∃ v' acc, e = .returned v' ∧ Nums w' v' acc ∧ D.Ok acc ∧ D.val acc = D.val xs - D.val ys ∧ Below w.heap.size w w' :=
  (rminus_own v1 v2 xs ys w h1 h2 hx hy b1 hl hle).mono fun _ _ ⟨v', acc, he, ho, ok, hv, hb⟩ => ⟨v', acc, he, ho.nums (dok ok), ok, hv, hb⟩
end Go.Proofs.YtenmogmdijnlhaaDoor

namespace Go.Proofs.YtenmogmdijnlhaaDoor
open Go.RowKit

/-- a number of the document's handed on: what stands behind it in the end -/
theorem rhanded {w w' : World} {g : Nat} {x y : Value} {z : Int} {b : Bool} {n : Nat} {a : Option Addr} {c : Nat} (hX : Box2 w' g 61 x y) (hx : ∀ z, x ≠ .int .u32 z) (hy : ∀ z, y ≠ .int .u32 z) (hg : w.heap.size ≤ g) (hB : Below w.heap.size w w')
    (hn : Nums w' (.slice a (D.lim n).length c) (D.lim n)) (he : z = sg b n) (h0 : n = 0 → b = false) :
    ∃ v, Ending.returned (.agg #[.bool b, .slice a (D.lim n).length c]) = .returned v ∧ RInt ((w'.setCell ⟨g, 0, none⟩ (.bool b)).setCell ⟨g, 1, none⟩ (.slice a (D.lim n).length c)) v z ∧ Below w.heap.size w ((w'.setCell ⟨g, 0, none⟩ (.bool b)).setCell ⟨g, 1, none⟩ (.slice a (D.lim n).length c)) :=
  ⟨_, rfl, ⟨b, n, a, c, rfl, keeps2 hX hx hy _ _ _ _ hn, he, h0⟩, (hB.setCell (p := ⟨g, 0, none⟩) hg _).setCell (p := ⟨g, 1, none⟩) hg _⟩

theorem dlen_le {m n : Nat} (h : m ≤ n) : (D.lim m).length ≤ (D.lim n).length := by
  have := D.val_lt (D.ok_lim n)
  rw [D.val_lim] at this
  exact D.lim_length_le (Nat.lt_of_le_of_lt h this)

set_option maxRecDepth 100000 in
set_option maxHeartbeats 4000000 in
theorem radd2_any (v1 v2 : Value) (x y : Int) (w : World) (h1 : RInt w v1 x) (h2 : RInt w v2 y) (l1 : (D.lim x.natAbs).length ≤ 100000000) (l2 : (D.lim y.natAbs).length ≤ 100000000) :
    Calls Tryd.prog 105 #[v1, v2] w fun e w' => ∃ v', e = .returned v' ∧ RInt w' v' (x + y) ∧ Below w.heap.size w w' := by
  obtain ⟨b1, n1, a1, c1, rfl, hn1, rfl, h01⟩ := h1
  obtain ⟨b2, n2, a2, c2, rfl, hn2, rfl, h02⟩ := h2
  have HE := hide (nboxes3 61 w (.bool b1) (.slice a1 (D.lim n1).length c1) (.bool b2) (.slice a2 (D.lim n2).length c2) (.bool false) (.slice none 0 0))
  have HN1 := hide (hn1.below HE.out.2.2.2)
  have HN2 := hide (hn2.below HE.out.2.2.2)
  rw [sg_abs] at l1 l2
  clear hn1 h01 hn2 h02
  by_cases hb : b1 = b2
  · subst hb
    go_enter Tryd.func105, Tryd.ntmps105
    go_wp2_with fail
    refine wp_calm (fun w' => Box2 w' w.heap.size 61 (.bool b1) (.slice a1 (D.lim n1).length c1) ∧ Box2 w' (w.heap.size + 1) 61 (.bool b1) (.slice a2 (D.lim n2).length c2)) (fun j => j != 8) 9 #[false, false, false, false, false, false, false, false, false] (by kernel_rfl) rfl rfl ?_
    have HF := hide (And.intro HE.out.1.drew HE.out.2.1.drew)
    refine Calm.take (i := 0) (v := ?_) (a' := ?_) (l' := #[true, false, false, false, false, false, false, false, false]) (d := some 10) rfl (by kernel_rfl) (by kernel_rfl) (by kernel_rfl) (by kernel_rfl) (fun _ _ _ h => h) HF.out rfl ?_ rfl rfl ?_ ?_
    rotate_left
    · intro w' hF; have f0 := hF.1.cell0; have f1 := hF.1.cell1; have f2 := hF.2.cell0; have f3 := hF.2.cell1; clear hF; go_simp; try rfl
    rotate_left
    · simp only [Act.put]; exact rfl
    refine Calm.take (i := 1) (v := ?_) (a' := ?_) (l' := #[true, true, false, false, false, false, false, false, false]) (d := some 11) rfl (by kernel_rfl) (by kernel_rfl) (by kernel_rfl) (by kernel_rfl) (fun _ _ _ h => h) HF.out rfl ?_ rfl rfl ?_ ?_
    rotate_left
    · intro w' hF; have f0 := hF.1.cell0; have f1 := hF.1.cell1; have f2 := hF.2.cell0; have f3 := hF.2.cell1; clear hF; go_simp; try rfl
    rotate_left
    · simp only [Act.put]; exact rfl
    refine Calm.take (i := 2) (v := ?_) (a' := ?_) (l' := #[true, true, true, false, false, false, false, false, false]) (d := some 12) rfl (by kernel_rfl) (by kernel_rfl) (by kernel_rfl) (by kernel_rfl) (fun _ _ _ h => h) HF.out rfl ?_ rfl rfl ?_ ?_
    rotate_left
    · intro w' hF; have f0 := hF.1.cell0; have f1 := hF.1.cell1; have f2 := hF.2.cell0; have f3 := hF.2.cell1; clear hF; go_simp; try rfl
    rotate_left
    · simp only [Act.put]; exact rfl
    refine Calm.take (i := 3) (v := ?_) (a' := ?_) (l' := #[true, true, true, true, false, false, false, false, false]) (d := some 13) rfl (by kernel_rfl) (by kernel_rfl) (by kernel_rfl) (by kernel_rfl) (fun _ _ _ h => h) HF.out rfl ?_ rfl rfl ?_ ?_
    rotate_left
    · intro w' hF; have f0 := hF.1.cell0; have f1 := hF.1.cell1; have f2 := hF.2.cell0; have f3 := hF.2.cell1; clear hF; go_simp; try rfl
    rotate_left
    · simp only [Act.put]; exact rfl
    refine Calm.take (i := 4) (v := ?_) (a' := ?_) (l' := #[true, true, true, true, true, false, false, false, false]) (d := some 14) rfl (by kernel_rfl) (by kernel_rfl) (by kernel_rfl) (by kernel_rfl) (fun _ _ _ h => h) HF.out rfl ?_ rfl rfl ?_ ?_
    rotate_left
    · intro w' hF; have f0 := hF.1.cell0; have f1 := hF.1.cell1; have f2 := hF.2.cell0; have f3 := hF.2.cell1; clear hF; go_simp; try rfl
    rotate_left
    · simp only [Act.put]; exact rfl
    refine Calm.take (i := 5) (v := ?_) (a' := ?_) (l' := #[true, true, true, true, true, true, false, false, false]) (d := some 15) rfl (by kernel_rfl) (by kernel_rfl) (by kernel_rfl) (by kernel_rfl) (fun _ _ _ h => h) HF.out rfl ?_ rfl rfl ?_ ?_
    rotate_left
    · intro w' hF; have f0 := hF.1.cell0; have f1 := hF.1.cell1; have f2 := hF.2.cell0; have f3 := hF.2.cell1; clear hF; go_simp; try rfl
    rotate_left
    · simp only [Act.put]; exact rfl
    refine Calm.one (i := 6) (l' := #[true, true, true, true, true, true, true, false, false]) (by kernel_rfl) rfl rfl rfl fun K hK => ?_
    go_simp
    refine (rplus_any _ _ (D.lim n1) (D.lim n2) _ HN1.out.drew HN2.out.drew (D.ok_lim _) (D.ok_lim _) l1 l2).mono ?_
    rintro e w1 ⟨v1, acc, rfl, m1, mo, mv, hb1⟩
    rw [D.val_lim, D.val_lim] at mv
    have HM1 := hide (And.intro m1 (And.intro mo mv))
    clear m1 mo mv
    have HR := hide (HE.out.2.2.1.drew.step hb1)
    have HB1 := hide (HE.out.2.2.2.trans ((Below.refl _ _).drew.trans (hb1.mono HE.out.2.2.2.size)))
    have HF' := hide (And.intro (HF.out.1.step hb1) (HF.out.2.step hb1))
    refine hK _ _ (fun _ => HF'.out) ?_
    clear hK K HF
    have HF := hide HF'.out
    clear HF'
    refine Calm.one (i := 7) (l' := #[true, true, true, true, true, true, true, true, false]) (by kernel_rfl) rfl rfl rfl fun K hK => ?_
    go_simp
    refine (rnorm2_any b1 _ acc _ HM1.out.1 HM1.out.2.1).mono ?_
    rintro e w2 ⟨v, rfl, ⟨b', n', a', c', rfl, hn', he, h0⟩, hb2⟩
    rw [HM1.out.2.2] at he
    have HX := hide (HR.out.step hb2)
    have HB2 := hide (HB1.out.trans (hb2.mono HB1.out.size))
    have HF' := hide (And.intro (HF.out.1.step hb2) (HF.out.2.step hb2))
    refine hK _ _ (fun _ => HF'.out) ?_
    clear hK K HF
    have HF := hide HF'.out
    clear HF'
    refine Calm.one (i := 8) (l' := #[true, true, true, true, true, true, true, true, true]) (by kernel_rfl) rfl rfl rfl fun K hK => ?_
    have hc0 := HX.out.cell0
    have hc1 := HX.out.cell1
    have hf0 := HX.out.free 0
    have hf1 := HX.out.free 1
    go_simp
    refine hK _ _ (fun h => absurd h (by decide)) ?_
    clear hK K
    refine Calm.done (by kernel_rfl) ?_
    go_wp2
    refine ret_ref rfl (w.heap.size + 1 + 1) _ _ _ _ rfl ((HX.out.set0 _).set1 _) rfl ?_
    refine rhanded HX.out (by simp) (by simp) (by omega) HB2.out hn' ?_ h0
    rw [← he, sg_add]
  · have hb' : b2 = !b1 := by cases b1 <;> cases b2 <;> simp_all
    subst hb'
    clear hb
    by_cases hlt : n1 < n2
    · have HLT := hide hlt
      have hcz : ¬ (0 : Int) ≤ cmpI n1 n2 := by rw [cmpI_lt hlt]; decide
      clear hlt
      go_enter Tryd.func105, Tryd.ntmps105
      go_wp2_with fail
      refine (rsize_any _ _ n1 n2 _ HN1.out HN2.out).mono ?_
      rintro e wz ⟨rfl, hb⟩
      have HEz := hide (And.intro (HE.out.1.step hb) (And.intro (HE.out.2.1.step hb) (And.intro (HE.out.2.2.1.step hb) (HE.out.2.2.2.trans (hb.mono HE.out.2.2.2.size)))))
      replace HN1 := hide (HN1.out.below hb)
      replace HN2 := hide (HN2.out.below hb)
      clear hb HE
      have HE := hide HEz.out
      clear HEz
      go_wp2_with fail
      refine wp_calm (fun w' => Box2 w' w.heap.size 61 (.bool b1) (.slice a1 (D.lim n1).length c1) ∧ Box2 w' (w.heap.size + 1) 61 (.bool !b1) (.slice a2 (D.lim n2).length c2)) (fun j => j != 8) 9 #[false, false, false, false, false, false, false, false, false] (by kernel_rfl) rfl rfl ?_
      have HF := hide (And.intro HE.out.1.drew HE.out.2.1.drew)
      refine Calm.take (i := 0) (v := ?_) (a' := ?_) (l' := #[true, false, false, false, false, false, false, false, false]) (d := some 32) rfl (by kernel_rfl) (by kernel_rfl) (by kernel_rfl) (by kernel_rfl) (fun _ _ _ h => h) HF.out rfl ?_ rfl rfl ?_ ?_
      rotate_left
      · intro w' hF; have f0 := hF.1.cell0; have f1 := hF.1.cell1; have f2 := hF.2.cell0; have f3 := hF.2.cell1; clear hF; go_simp; try rfl
      rotate_left
      · simp only [Act.put]; exact rfl
      refine Calm.take (i := 1) (v := ?_) (a' := ?_) (l' := #[true, true, false, false, false, false, false, false, false]) (d := some 33) rfl (by kernel_rfl) (by kernel_rfl) (by kernel_rfl) (by kernel_rfl) (fun _ _ _ h => h) HF.out rfl ?_ rfl rfl ?_ ?_
      rotate_left
      · intro w' hF; have f0 := hF.1.cell0; have f1 := hF.1.cell1; have f2 := hF.2.cell0; have f3 := hF.2.cell1; clear hF; go_simp; try rfl
      rotate_left
      · simp only [Act.put]; exact rfl
      refine Calm.take (i := 2) (v := ?_) (a' := ?_) (l' := #[true, true, true, false, false, false, false, false, false]) (d := some 34) rfl (by kernel_rfl) (by kernel_rfl) (by kernel_rfl) (by kernel_rfl) (fun _ _ _ h => h) HF.out rfl ?_ rfl rfl ?_ ?_
      rotate_left
      · intro w' hF; have f0 := hF.1.cell0; have f1 := hF.1.cell1; have f2 := hF.2.cell0; have f3 := hF.2.cell1; clear hF; go_simp; try rfl
      rotate_left
      · simp only [Act.put]; exact rfl
      refine Calm.take (i := 3) (v := ?_) (a' := ?_) (l' := #[true, true, true, true, false, false, false, false, false]) (d := some 35) rfl (by kernel_rfl) (by kernel_rfl) (by kernel_rfl) (by kernel_rfl) (fun _ _ _ h => h) HF.out rfl ?_ rfl rfl ?_ ?_
      rotate_left
      · intro w' hF; have f0 := hF.1.cell0; have f1 := hF.1.cell1; have f2 := hF.2.cell0; have f3 := hF.2.cell1; clear hF; go_simp; try rfl
      rotate_left
      · simp only [Act.put]; exact rfl
      refine Calm.take (i := 4) (v := ?_) (a' := ?_) (l' := #[true, true, true, true, true, false, false, false, false]) (d := some 36) rfl (by kernel_rfl) (by kernel_rfl) (by kernel_rfl) (by kernel_rfl) (fun _ _ _ h => h) HF.out rfl ?_ rfl rfl ?_ ?_
      rotate_left
      · intro w' hF; have f0 := hF.1.cell0; have f1 := hF.1.cell1; have f2 := hF.2.cell0; have f3 := hF.2.cell1; clear hF; go_simp; try rfl
      rotate_left
      · simp only [Act.put]; exact rfl
      refine Calm.take (i := 5) (v := ?_) (a' := ?_) (l' := #[true, true, true, true, true, true, false, false, false]) (d := some 37) rfl (by kernel_rfl) (by kernel_rfl) (by kernel_rfl) (by kernel_rfl) (fun _ _ _ h => h) HF.out rfl ?_ rfl rfl ?_ ?_
      rotate_left
      · intro w' hF; have f0 := hF.1.cell0; have f1 := hF.1.cell1; have f2 := hF.2.cell0; have f3 := hF.2.cell1; clear hF; go_simp; try rfl
      rotate_left
      · simp only [Act.put]; exact rfl
      refine Calm.one (i := 6) (l' := #[true, true, true, true, true, true, true, false, false]) (by kernel_rfl) rfl rfl rfl fun K hK => ?_
      go_simp
      refine (rminus_any _ _ (D.lim n2) (D.lim n1) _ HN2.out.drew HN1.out.drew (D.ok_lim _) (D.ok_lim _) l2 (dlen_le (Nat.le_of_lt HLT.out)) (by rw [D.val_lim, D.val_lim]; exact Nat.le_of_lt HLT.out)).mono ?_
      rintro e w1 ⟨v1, acc, rfl, m1, mo, mv, hb1⟩
      rw [D.val_lim, D.val_lim] at mv
      have HM1 := hide (And.intro m1 (And.intro mo mv))
      clear m1 mo mv
      have HR := hide (HE.out.2.2.1.drew.step hb1)
      have HB1 := hide (HE.out.2.2.2.trans ((Below.refl _ _).drew.trans (hb1.mono HE.out.2.2.2.size)))
      have HF' := hide (And.intro (HF.out.1.step hb1) (HF.out.2.step hb1))
      refine hK _ _ (fun _ => HF'.out) ?_
      clear hK K HF
      have HF := hide HF'.out
      clear HF'
      refine Calm.one (i := 7) (l' := #[true, true, true, true, true, true, true, true, false]) (by kernel_rfl) rfl rfl rfl fun K hK => ?_
      go_simp
      refine (rnorm2_any (!b1) _ acc _ HM1.out.1 HM1.out.2.1).mono ?_
      rintro e w2 ⟨v, rfl, ⟨b', n', a', c', rfl, hn', he, h0⟩, hb2⟩
      rw [HM1.out.2.2] at he
      have HX := hide (HR.out.step hb2)
      have HB2 := hide (HB1.out.trans (hb2.mono HB1.out.size))
      have HF' := hide (And.intro (HF.out.1.step hb2) (HF.out.2.step hb2))
      refine hK _ _ (fun _ => HF'.out) ?_
      clear hK K HF
      have HF := hide HF'.out
      clear HF'
      refine Calm.one (i := 8) (l' := #[true, true, true, true, true, true, true, true, true]) (by kernel_rfl) rfl rfl rfl fun K hK => ?_
      have hc0 := HX.out.cell0
      have hc1 := HX.out.cell1
      have hf0 := HX.out.free 0
      have hf1 := HX.out.free 1
      go_simp
      refine hK _ _ (fun h => absurd h (by decide)) ?_
      clear hK K
      refine Calm.done (by kernel_rfl) ?_
      go_wp2
      refine ret_ref rfl (w.heap.size + 1 + 1) _ _ _ _ rfl ((HX.out.set0 _).set1 _) rfl ?_
      refine rhanded HX.out (by simp) (by simp) (by omega) HB2.out hn' ?_ h0
      rw [← he, sg_lt _ _ _ HLT.out]
    · have HLT := hide hlt
      have hcz : (0 : Int) ≤ cmpI n1 n2 := by
        unfold cmpI; rw [if_neg hlt]; split <;> decide
      clear hlt
      go_enter Tryd.func105, Tryd.ntmps105
      go_wp2_with fail
      refine (rsize_any _ _ n1 n2 _ HN1.out HN2.out).mono ?_
      rintro e wz ⟨rfl, hb⟩
      have HEz := hide (And.intro (HE.out.1.step hb) (And.intro (HE.out.2.1.step hb) (And.intro (HE.out.2.2.1.step hb) (HE.out.2.2.2.trans (hb.mono HE.out.2.2.2.size)))))
      replace HN1 := hide (HN1.out.below hb)
      replace HN2 := hide (HN2.out.below hb)
      clear hb HE
      have HE := hide HEz.out
      clear HEz
      go_wp2_with fail
      refine wp_calm (fun w' => Box2 w' w.heap.size 61 (.bool b1) (.slice a1 (D.lim n1).length c1) ∧ Box2 w' (w.heap.size + 1) 61 (.bool !b1) (.slice a2 (D.lim n2).length c2)) (fun j => j != 8) 9 #[false, false, false, false, false, false, false, false, false] (by kernel_rfl) rfl rfl ?_
      have HF := hide (And.intro HE.out.1.drew HE.out.2.1.drew)
      refine Calm.take (i := 0) (v := ?_) (a' := ?_) (l' := #[true, false, false, false, false, false, false, false, false]) (d := some 24) rfl (by kernel_rfl) (by kernel_rfl) (by kernel_rfl) (by kernel_rfl) (fun _ _ _ h => h) HF.out rfl ?_ rfl rfl ?_ ?_
      rotate_left
      · intro w' hF; have f0 := hF.1.cell0; have f1 := hF.1.cell1; have f2 := hF.2.cell0; have f3 := hF.2.cell1; clear hF; go_simp; try rfl
      rotate_left
      · simp only [Act.put]; exact rfl
      refine Calm.take (i := 1) (v := ?_) (a' := ?_) (l' := #[true, true, false, false, false, false, false, false, false]) (d := some 25) rfl (by kernel_rfl) (by kernel_rfl) (by kernel_rfl) (by kernel_rfl) (fun _ _ _ h => h) HF.out rfl ?_ rfl rfl ?_ ?_
      rotate_left
      · intro w' hF; have f0 := hF.1.cell0; have f1 := hF.1.cell1; have f2 := hF.2.cell0; have f3 := hF.2.cell1; clear hF; go_simp; try rfl
      rotate_left
      · simp only [Act.put]; exact rfl
      refine Calm.take (i := 2) (v := ?_) (a' := ?_) (l' := #[true, true, true, false, false, false, false, false, false]) (d := some 26) rfl (by kernel_rfl) (by kernel_rfl) (by kernel_rfl) (by kernel_rfl) (fun _ _ _ h => h) HF.out rfl ?_ rfl rfl ?_ ?_
      rotate_left
      · intro w' hF; have f0 := hF.1.cell0; have f1 := hF.1.cell1; have f2 := hF.2.cell0; have f3 := hF.2.cell1; clear hF; go_simp; try rfl
      rotate_left
      · simp only [Act.put]; exact rfl
      refine Calm.take (i := 3) (v := ?_) (a' := ?_) (l' := #[true, true, true, true, false, false, false, false, false]) (d := some 27) rfl (by kernel_rfl) (by kernel_rfl) (by kernel_rfl) (by kernel_rfl) (fun _ _ _ h => h) HF.out rfl ?_ rfl rfl ?_ ?_
      rotate_left
      · intro w' hF; have f0 := hF.1.cell0; have f1 := hF.1.cell1; have f2 := hF.2.cell0; have f3 := hF.2.cell1; clear hF; go_simp; try rfl
      rotate_left
      · simp only [Act.put]; exact rfl
      refine Calm.take (i := 4) (v := ?_) (a' := ?_) (l' := #[true, true, true, true, true, false, false, false, false]) (d := some 28) rfl (by kernel_rfl) (by kernel_rfl) (by kernel_rfl) (by kernel_rfl) (fun _ _ _ h => h) HF.out rfl ?_ rfl rfl ?_ ?_
      rotate_left
      · intro w' hF; have f0 := hF.1.cell0; have f1 := hF.1.cell1; have f2 := hF.2.cell0; have f3 := hF.2.cell1; clear hF; go_simp; try rfl
      rotate_left
      · simp only [Act.put]; exact rfl
      refine Calm.take (i := 5) (v := ?_) (a' := ?_) (l' := #[true, true, true, true, true, true, false, false, false]) (d := some 29) rfl (by kernel_rfl) (by kernel_rfl) (by kernel_rfl) (by kernel_rfl) (fun _ _ _ h => h) HF.out rfl ?_ rfl rfl ?_ ?_
      rotate_left
      · intro w' hF; have f0 := hF.1.cell0; have f1 := hF.1.cell1; have f2 := hF.2.cell0; have f3 := hF.2.cell1; clear hF; go_simp; try rfl
      rotate_left
      · simp only [Act.put]; exact rfl
      refine Calm.one (i := 6) (l' := #[true, true, true, true, true, true, true, false, false]) (by kernel_rfl) rfl rfl rfl fun K hK => ?_
      go_simp
      refine (rminus_any _ _ (D.lim n1) (D.lim n2) _ HN1.out.drew HN2.out.drew (D.ok_lim _) (D.ok_lim _) l1 (dlen_le (Nat.le_of_not_lt HLT.out)) (by rw [D.val_lim, D.val_lim]; exact Nat.le_of_not_lt HLT.out)).mono ?_
      rintro e w1 ⟨v1, acc, rfl, m1, mo, mv, hb1⟩
      rw [D.val_lim, D.val_lim] at mv
      have HM1 := hide (And.intro m1 (And.intro mo mv))
      clear m1 mo mv
      have HR := hide (HE.out.2.2.1.drew.step hb1)
      have HB1 := hide (HE.out.2.2.2.trans ((Below.refl _ _).drew.trans (hb1.mono HE.out.2.2.2.size)))
      have HF' := hide (And.intro (HF.out.1.step hb1) (HF.out.2.step hb1))
      refine hK _ _ (fun _ => HF'.out) ?_
      clear hK K HF
      have HF := hide HF'.out
      clear HF'
      refine Calm.one (i := 7) (l' := #[true, true, true, true, true, true, true, true, false]) (by kernel_rfl) rfl rfl rfl fun K hK => ?_
      go_simp
      refine (rnorm2_any b1 _ acc _ HM1.out.1 HM1.out.2.1).mono ?_
      rintro e w2 ⟨v, rfl, ⟨b', n', a', c', rfl, hn', he, h0⟩, hb2⟩
      rw [HM1.out.2.2] at he
      have HX := hide (HR.out.step hb2)
      have HB2 := hide (HB1.out.trans (hb2.mono HB1.out.size))
      have HF' := hide (And.intro (HF.out.1.step hb2) (HF.out.2.step hb2))
      refine hK _ _ (fun _ => HF'.out) ?_
      clear hK K HF
      have HF := hide HF'.out
      clear HF'
      refine Calm.one (i := 8) (l' := #[true, true, true, true, true, true, true, true, true]) (by kernel_rfl) rfl rfl rfl fun K hK => ?_
      have hc0 := HX.out.cell0
      have hc1 := HX.out.cell1
      have hf0 := HX.out.free 0
      have hf1 := HX.out.free 1
      go_simp
      refine hK _ _ (fun h => absurd h (by decide)) ?_
      clear hK K
      refine Calm.done (by kernel_rfl) ?_
      go_wp2
      refine ret_ref rfl (w.heap.size + 1 + 1) _ _ _ _ rfl ((HX.out.set0 _).set1 _) rfl ?_
      refine rhanded HX.out (by simp) (by simp) (by omega) HB2.out hn' ?_ h0
      rw [← he, sg_ge _ _ _ HLT.out]

set_option maxRecDepth 100000 in
set_option maxHeartbeats 1000000 in
theorem rsub2_any (v1 v2 : Value) (x y : Int) (w : World) (h1 : RInt w v1 x) (h2 : RInt w v2 y) (l1 : (D.lim x.natAbs).length ≤ 100000000) (l2 : (D.lim y.natAbs).length ≤ 100000000) :
    Calls Tryd.prog 106 #[v1, v2] w fun e w' => ∃ v', e = .returned v' ∧ RInt w' v' (x - y) ∧ Below w.heap.size w w' := by
  have I1 := hide h1
  have I2 := hide h2
  obtain ⟨b1, n1, a1, c1, rfl, hn1, e1, h01⟩ := h1
  obtain ⟨b2, n2, a2, c2, rfl, hn2, e2, h02⟩ := h2
  have HE := hide (nboxes3 61 w (.bool b1) (.slice a1 (D.lim n1).length c1) (.bool b2) (.slice a2 (D.lim n2).length c2) (.bool false) (.slice none 0 0))
  replace I1 := hide (I1.out.below HE.out.2.2.2)
  replace I2 := hide (I2.out.below HE.out.2.2.2)
  clear hn1 h01 hn2 h02 e1 e2
  go_enter Tryd.func106, Tryd.ntmps106
  go_wp2_with fail
  refine wp_calm (fun w' => Box2 w' w.heap.size 61 (.bool b1) (.slice a1 (D.lim n1).length c1) ∧ Box2 w' (w.heap.size + 1) 61 (.bool b2) (.slice a2 (D.lim n2).length c2)) (fun j => j != 4) 5 #[false, false, false, false, false] (by kernel_rfl) rfl rfl ?_
  have HF := hide (And.intro HE.out.1.drew HE.out.2.1.drew)
  refine Calm.take (i := 0) (v := ?_) (a' := ?_) (l' := #[true, false, false, false, false]) (d := some 5) rfl (by kernel_rfl) (by kernel_rfl) (by kernel_rfl) (by kernel_rfl) (fun _ _ _ h => h) HF.out rfl ?_ rfl rfl ?_ ?_
  rotate_left
  · intro w' hF; have f0 := hF.1.cell0; have f1 := hF.1.cell1; have f2 := hF.2.cell0; have f3 := hF.2.cell1; clear hF; go_simp; try rfl
  rotate_left
  · simp only [Act.put]; exact rfl
  refine Calm.take (i := 1) (v := ?_) (a' := ?_) (l' := #[true, true, false, false, false]) (d := some 6) rfl (by kernel_rfl) (by kernel_rfl) (by kernel_rfl) (by kernel_rfl) (fun _ _ _ h => h) HF.out rfl ?_ rfl rfl ?_ ?_
  rotate_left
  · intro w' hF; have f0 := hF.1.cell0; have f1 := hF.1.cell1; have f2 := hF.2.cell0; have f3 := hF.2.cell1; clear hF; go_simp; try rfl
  rotate_left
  · simp only [Act.put]; exact rfl
  refine Calm.one (i := 2) (l' := #[true, true, true, false, false]) (by kernel_rfl) rfl rfl rfl fun K hK => ?_
  go_simp
  refine (rneg_any _ y _ I2.out.drew).mono ?_
  rintro e w1 ⟨v1, rfl, m1, hb1⟩
  have HM1 := hide m1
  have HR := hide (HE.out.2.2.1.drew.step hb1)
  have HB1 := hide (HE.out.2.2.2.trans ((Below.refl _ _).drew.trans (hb1.mono HE.out.2.2.2.size)))
  replace I1 := hide (I1.out.drew.below hb1)
  have HF' := hide (And.intro (HF.out.1.step hb1) (HF.out.2.step hb1))
  refine hK _ _ (fun _ => HF'.out) ?_
  clear hK K HF
  have HF := hide HF'.out
  clear HF'
  refine Calm.one (i := 3) (l' := #[true, true, true, true, false]) (by kernel_rfl) rfl rfl rfl fun K hK => ?_
  go_simp
  refine (radd2_any _ _ x (-y) _ I1.out HM1.out l1 (by rw [neg_abs]; exact l2)).mono ?_
  rintro e w2 ⟨v, rfl, ⟨b', n', a', c', rfl, hn', he, h0⟩, hb2⟩
  have HX := hide (HR.out.step hb2)
  have HB2 := hide (HB1.out.trans (hb2.mono HB1.out.size))
  have HF' := hide (And.intro (HF.out.1.step hb2) (HF.out.2.step hb2))
  refine hK _ _ (fun _ => HF'.out) ?_
  clear hK K HF
  have HF := hide HF'.out
  clear HF'
  refine Calm.one (i := 4) (l' := #[true, true, true, true, true]) (by kernel_rfl) rfl rfl rfl fun K hK => ?_
  have hc0 := HX.out.cell0
  have hc1 := HX.out.cell1
  have hf0 := HX.out.free 0
  have hf1 := HX.out.free 1
  go_simp
  refine hK _ _ (fun h => absurd h (by decide)) ?_
  clear hK K
  refine Calm.done (by kernel_rfl) ?_
  go_wp2
  refine ret_ref rfl (w.heap.size + 1 + 1) _ _ _ _ rfl ((HX.out.set0 _).set1 _) rfl ?_
  refine rhanded HX.out (by simp) (by simp) (by omega) HB2.out hn' ?_ h0
  rw [← he, Int.sub_eq_add_neg]
end Go.Proofs.YtenmogmdijnlhaaDoor

namespace Go.Proofs.YtenmogmdijnlhaaDoor
open Go.RowKit

theorem dset_val (out : List Nat) (p d : Nat) (h : p < out.length) : D.val (out.set p d) + 65536 ^ p * lm out p = D.val out + 65536 ^ p * d := by
  induction out generalizing p with
  | nil => simp at h
  | cons x out ih =>
    cases p with
    | zero => simp [D.val, lm]; omega
    | succ p =>
      have := ih p (by simpa using h)
      have e : lm (x :: out) (p + 1) = lm out p := by simp [lm]
      rw [e, List.set_cons_succ]
      simp only [D.val]
      show x + 65536 * D.val (out.set p d) + 65536 ^ (p + 1) * lm out p = x + 65536 * D.val out + 65536 ^ (p + 1) * d
      rw [Nat.pow_succ, Nat.mul_comm (65536 ^ p) 65536, Nat.mul_assoc, Nat.mul_assoc, Nat.add_assoc, Nat.add_assoc, ← Nat.mul_add, ← Nat.mul_add, this]

/-- a product's state: the rows ahead of i, of the row i the digits ahead of j -/
structure ProdAt (xs ys : List Nat) (i j c : Nat) (out : List Nat) : Prop where
  len : out.length = xs.length + ys.length + 1
  ok : D.Ok out
  c1 : c < 65536
  sum : D.val out + 65536 ^ (i + j) * c = D.val (xs.take i) * D.val ys + 65536 ^ i * lm xs i * D.val (ys.take j)
theorem ProdAt.start (xs ys : List Nat) : ProdAt xs ys 0 0 0 (List.replicate (xs.length + ys.length + 1) 0) := by
  refine ⟨by simp, fun x hx => ?_, by decide, ?_⟩
  · rw [List.eq_of_mem_replicate hx]; decide
  · rw [show D.val (List.replicate (xs.length + ys.length + 1) 0) = 0 from D.val_replicate _]; simp [D.val]
theorem ProdAt.step {xs ys : List Nat} {i j c : Nat} {out : List Nat} (h : ProdAt xs ys i j c out) (hx : D.Ok xs) (hy : D.Ok ys) (hp : i + j < out.length) :
    ProdAt xs ys i (j + 1) ((c + lm out (i + j) + lm xs i * lm ys j) / 65536) (out.set (i + j) ((c + lm out (i + j) + lm xs i * lm ys j) % 65536)) := by
  have h1 := dlm_lt hx i
  have h2 := dlm_lt hy j
  have h3 := dlm_lt h.ok (i + j)
  have h4 := h.c1
  have h5 : lm xs i * lm ys j ≤ 65535 * 65535 := Nat.mul_le_mul (by omega) (by omega)
  refine ⟨by rw [List.length_set]; exact h.len, h.ok.set _ _ (Nat.mod_lt _ (by decide)), by omega, ?_⟩
  have e := dset_val out (i + j) ((c + lm out (i + j) + lm xs i * lm ys j) % 65536) hp
  have em := Nat.mod_add_div (c + lm out (i + j) + lm xs i * lm ys j) 65536
  rw [dtake_succ, show i + (j + 1) = i + j + 1 from by omega, Nat.pow_succ]
  have hs := h.sum
  have e1 : 65536 ^ (i + j) * ((c + lm out (i + j) + lm xs i * lm ys j) % 65536) + 65536 ^ (i + j) * 65536 * ((c + lm out (i + j) + lm xs i * lm ys j) / 65536) = 65536 ^ (i + j) * c + 65536 ^ (i + j) * lm out (i + j) + 65536 ^ (i + j) * (lm xs i * lm ys j) := by
    rw [Nat.mul_assoc, ← Nat.mul_add, em, Nat.mul_add, Nat.mul_add]
  have e2 : 65536 ^ i * lm xs i * (D.val (ys.take j) + 65536 ^ j * lm ys j) = 65536 ^ i * lm xs i * D.val (ys.take j) + 65536 ^ (i + j) * (lm xs i * lm ys j) := by
    rw [Nat.mul_add, Nat.pow_add]
    congr 1
    rw [Nat.mul_assoc, Nat.mul_assoc]
    congr 1
    rw [← Nat.mul_assoc, ← Nat.mul_assoc, Nat.mul_comm (lm xs i)]
  rw [e2]
  omega
theorem ProdAt.last {xs ys : List Nat} {i j : Nat} {out : List Nat} (h : ProdAt xs ys i j 0 out) (hj : ys.length ≤ j) : ProdAt xs ys (i + 1) 0 0 out := by
  refine ⟨h.len, h.ok, by decide, ?_⟩
  have := h.sum
  rw [List.take_of_length_le hj, Nat.mul_zero, Nat.add_zero] at this
  rw [this, dtake_succ, List.take_zero]
  simp only [D.val, Nat.mul_zero, Nat.add_zero]
  rw [Nat.add_mul]
theorem ProdAt.whole {xs ys : List Nat} {i : Nat} {out : List Nat} (h : ProdAt xs ys i 0 0 out) (hi : xs.length ≤ i) : D.val out = D.val xs * D.val ys := by
  have := h.sum
  rw [List.take_of_length_le hi, List.take_zero] at this
  simpa [D.val] using this
theorem dtake_le (ys : List Nat) (j : Nat) : D.val (ys.take j) ≤ D.val ys := by
  have := D.val_append (ys.take j) (ys.drop j)
  rw [List.take_append_drop] at this
  omega
theorem ProdAt.room {xs ys : List Nat} {i j c : Nat} {out : List Nat} (h : ProdAt xs ys i j c out) (hx : D.Ok xs) (hy : D.Ok ys) (hc : 0 < c) : j ≤ ys.length := by
  have h1 : D.val (xs.take (i + 1)) < 65536 ^ (i + 1) := Nat.lt_of_lt_of_le (D.val_lt (hx.take (i + 1))) (Nat.pow_le_pow_right (by decide) (by rw [List.length_take]; omega))
  have h2 : D.val ys < 65536 ^ ys.length := D.val_lt hy
  have h3 : D.val (xs.take (i + 1)) * D.val ys < 65536 ^ (i + 1) * 65536 ^ ys.length := Nat.mul_lt_mul_of_lt_of_le h1 (Nat.le_of_lt h2) (Nat.pow_pos (by decide))
  rw [dtake_succ, Nat.add_mul, ← Nat.pow_add] at h3
  have h4 : 65536 ^ i * lm xs i * D.val (ys.take j) ≤ 65536 ^ i * lm xs i * D.val ys := Nat.mul_le_mul_left _ (dtake_le ys j)
  have h5 : 65536 ^ (i + j) ≤ 65536 ^ (i + j) * c := Nat.le_mul_of_pos_right _ hc
  have hs := h.sum
  have h6 : 65536 ^ (i + j) < 65536 ^ (i + 1 + ys.length) := by omega
  have := (Nat.pow_lt_pow_iff_right (by decide)).1 h6
  omega

end Go.Proofs.YtenmogmdijnlhaaDoor

namespace Go.Proofs.YtenmogmdijnlhaaDoor
open Go.RowKit

structure RVar (w : World) (g : Nat) (s : Bool) (m : Option Addr) (n c : Nat) (z : Int) : Prop where
  box : Box2 w g 61 (.bool s) (.slice m n c)
  int : RInt w (.agg #[.bool s, .slice m n c]) z
theorem RVar.step {w w' : World} {g : Nat} {s : Bool} {m : Option Addr} {n c : Nat} {z : Int} (h : RVar w g s m n c z) (hb : Below w.heap.size w w') : RVar w' g s m n c z := ⟨h.box.step hb, h.int.below hb⟩
theorem RVar.drew {w : World} {g : Nat} {s : Bool} {m : Option Addr} {n c : Nat} {z : Int} (h : RVar w g s m n c z) : RVar w.drew g s m n c z := ⟨h.box.drew, h.int.drew⟩
theorem RInt.var {w : World} {s : Bool} {m : Option Addr} {n c : Nat} {z : Int} (h : RInt w (.agg #[.bool s, .slice m n c]) z) : RVar (w.alloc (.cells #[.bool s, .slice m n c] 61)) w.heap.size s m n c z := ⟨Box2.new _ _ _ _, h.below (below_alloc _ _)⟩

theorem SzI.word {c : Int} (hlo : -9223372036854775808 ≤ c) (hhi : c ≤ 9223372036854775807) : SzI 2 c := by
  unfold SzI BB; omega
end Go.Proofs.YtenmogmdijnlhaaDoor
