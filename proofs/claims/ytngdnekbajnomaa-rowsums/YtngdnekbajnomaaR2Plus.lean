/- The document's answers for layer 2 (swageref02): plus, minus. -/
import Derived.Test.YtngdnekbajnomaaR2Num
namespace Go.Proofs.Ytngdnekbajnomaa
open Go.RowKit

/-- a sum's state behind k digits -/
structure PlusAt (xs ys : List Nat) (k c : Nat) (acc : List Nat) : Prop where
  len : acc.length = k
  ok : D.Ok acc
  c1 : c ≤ 1
  sum : D.val acc + 65536 ^ k * c = D.val (xs.take k) + D.val (ys.take k)
theorem PlusAt.start (xs ys : List Nat) : PlusAt xs ys 0 0 [] := ⟨rfl, D.Ok.nil, by decide, by simp [D.val]⟩
theorem PlusAt.step {xs ys : List Nat} {k c : Nat} {acc : List Nat} (h : PlusAt xs ys k c acc) (hx : D.Ok xs) (hy : D.Ok ys) : PlusAt xs ys (k + 1) ((c + lm xs k + lm ys k) / 65536) (acc ++ [(c + lm xs k + lm ys k) % 65536]) := by
  have h1 := dlm_lt hx k
  have h2 := dlm_lt hy k
  have h3 := h.c1
  refine ⟨by rw [List.length_append, h.len]; rfl, h.ok.append (D.Ok.cons (Nat.mod_lt _ (by decide)) D.Ok.nil), by omega, ?_⟩
  rw [D.val_append, h.len, dtake_succ, dtake_succ, Nat.pow_succ]
  simp only [D.val, Nat.mul_zero, Nat.add_zero]
  show D.val acc + 65536 ^ k * ((c + lm xs k + lm ys k) % 65536) + 65536 ^ k * 65536 * ((c + lm xs k + lm ys k) / 65536) = _
  have e := Nat.mod_add_div (c + lm xs k + lm ys k) 65536
  have e1 : 65536 ^ k * ((c + lm xs k + lm ys k) % 65536) + 65536 ^ k * 65536 * ((c + lm xs k + lm ys k) / 65536) = 65536 ^ k * c + 65536 ^ k * lm xs k + 65536 ^ k * lm ys k := by
    rw [Nat.mul_assoc, ← Nat.mul_add, e, Nat.mul_add, Nat.mul_add]
  have := h.sum
  omega
theorem PlusAt.last {xs ys : List Nat} {k : Nat} {acc : List Nat} (h : PlusAt xs ys k 0 acc) (h1 : xs.length ≤ k) (h2 : ys.length ≤ k) : D.val acc = D.val xs + D.val ys := by
  have := h.sum
  rw [List.take_of_length_le h1, List.take_of_length_le h2] at this
  simpa using this

set_option maxRecDepth 100000 in
set_option maxHeartbeats 4000000 in
theorem rplus_any (v1 v2 : Value) (xs ys : List Nat) (w : World) (h1 : Nums w v1 xs) (h2 : Nums w v2 ys) (hx : D.Ok xs) (hy : D.Ok ys) (b1 : xs.length ≤ 100000000) (b2 : ys.length ≤ 100000000) :
    Calls Try.prog 54 #[v1, v2] w fun e w' => ∃ v' acc, e = .returned v' ∧ Nums w' v' acc ∧ D.Ok acc ∧ D.val acc = D.val xs + D.val ys ∧ Below w.heap.size w w' := by
  obtain ⟨i0, hi, hz0, hz1, hz2⟩ := info_parts Try.info63
  have HX := hide hx
  have HY := hide hy
  have HN1 := hide h1
  have HN2 := hide h2
  obtain ⟨_, a1, c1, rfl, _, hm1, _⟩ := h1
  obtain ⟨_, a2, c2, rfl, _, hm2, _⟩ := h2
  clear hx hy
  unfold maxLen at hm1 hm2
  go_enter Try.func54, Try.ntmps54
  go_wp2
  go_loopw [5, 6, 7] (fun ov cv iv wr => ∃ (k c : Nat) (acc : List Nat), k ≤ xs.length + ys.length + 1 ∧ iv = .int .i64 k ∧ cv = .int .u32 c ∧ c ≤ 1 ∧ Hid (c = 0 ∨ k ≤ xs.length ∨ k ≤ ys.length) ∧ PlusAt xs ys k c acc ∧ Own wr w.heap.size ov acc ∧ Below w.heap.size w wr) (fun _ cv iv _ => 2 * (xs.length + ys.length) + 3 - 2 * (intOf iv).toNat + (intOf cv).toNat)
  case atStart => exact ⟨0, 0, [], by omega, rfl, rfl, by omega, .inl rfl, PlusAt.start xs ys, World.ownsRow_nil _ _ _ _, Below.refl _ _⟩
  case round =>
    obtain ⟨k, c, acc, hk, rfl, rfl, hc1, HD, hat, hO, hbel⟩ := hrel
    have HAT := hide hat
    have HO := hide hO
    have HBE := hide hbel
    have hal : acc.length ≤ 200000001 := by rw [hat.len]; omega
    have hdx := dlm_lt HX.out k
    have hdy := dlm_lt HY.out k
    have hbs := hbel.size
    clear hat hO hbel
    by_cases hlx : k < xs.length
    · obtain ⟨B1, o1, rfl, hc1'⟩ : ∃ B o, a1 = some ⟨B, o, none⟩ ∧ wr.cell? ⟨B, o + k, none⟩ = some (.int .u32 (lm xs k : Nat)) := by
        obtain ⟨_, a', c', he, _, _, h3⟩ := HN1.out.below HBE.out
        simp only [Value.slice.injEq] at he
        obtain ⟨rfl, _, rfl⟩ := he
        obtain ⟨b, off, rfl, hc⟩ := h3 (ne_nil hlx)
        exact ⟨b, off, rfl, hc k hlx⟩
      by_cases hly : k < ys.length
      · obtain ⟨B2, o2, rfl, hc2'⟩ : ∃ B o, a2 = some ⟨B, o, none⟩ ∧ wr.cell? ⟨B, o + k, none⟩ = some (.int .u32 (lm ys k : Nat)) := by
          obtain ⟨_, a', c', he, _, _, h3⟩ := HN2.out.below HBE.out
          simp only [Value.slice.injEq] at he
          obtain ⟨rfl, _, rfl⟩ := he
          obtain ⟨b, off, rfl, hc⟩ := h3 (ne_nil hly)
          exact ⟨b, off, rfl, hc k hly⟩
        go_wp2_with (at_builtin; refine wpList_append_own _ rfl _ _ 23 rfl w.heap.size 63 i0 (.int .u32 0) 1 4 Try.underlying23 hi hz0 hz1 hz2 rfl (by decide) _ _ _ rfl (World.ownsRow.alloc HO.out _) ⟨_, 0, none⟩ 1 1 [.int .u32 (((c : Int) + (lm xs k : Int) + (lm ys k : Int)) % 65536)] rfl rfl ?_ ?_ ?_ ?_ ?_ ?_)
        · intro i u hi'
          match i, hi' with
          | 0, hi' => simp at hi'; subst hi'; simp [Addr.add]
        · intro u hu; simp at hu; subst hu; rfl
        · unfold maxLen; omega
        · omega
        · simp; omega
        · intro v6 w6 hown6 hgrow6 _
          obtain ⟨hO6, hB6⟩ := own_step (n := (c + lm xs k + lm ys k) % 65536) (by omega) HO.out hown6 hgrow6 HBE.out hbs (Nat.le_refl _)
          have HO6 := hide hO6
          have HB6 := hide hB6
          clear hown6 hgrow6 hO6 hB6
          go_wp2
          go_roundw
          case rel => exact ⟨k + 1, (c + lm xs k + lm ys k) / 65536, _, by omega, by go_num, congrArg (Value.int .u32) (by omega), by omega, .inr (.inl (by omega)), HAT.out.step HX.out HY.out, HO6.out, HB6.out⟩
          case measure => simp [intOf]; omega
      · have HZY := hide (lm_over ys k (by omega))
        go_wp2_with (at_builtin; refine wpList_append_own _ rfl _ _ 23 rfl w.heap.size 63 i0 (.int .u32 0) 1 4 Try.underlying23 hi hz0 hz1 hz2 rfl (by decide) _ _ _ rfl (World.ownsRow.alloc HO.out _) ⟨_, 0, none⟩ 1 1 [.int .u32 (((c : Int) + (lm xs k : Int)) % 65536)] rfl rfl ?_ ?_ ?_ ?_ ?_ ?_)
        · intro i u hi'
          match i, hi' with
          | 0, hi' => simp at hi'; subst hi'; simp [Addr.add]
        · intro u hu; simp at hu; subst hu; rfl
        · unfold maxLen; omega
        · omega
        · simp; omega
        · intro v6 w6 hown6 hgrow6 _
          obtain ⟨hO6, hB6⟩ := own_step (n := (c + lm xs k + lm ys k) % 65536) (by have := HZY.out; omega) HO.out hown6 hgrow6 HBE.out hbs (Nat.le_refl _)
          have HO6 := hide hO6
          have HB6 := hide hB6
          clear hown6 hgrow6 hO6 hB6
          go_wp2
          go_roundw
          case rel => exact ⟨k + 1, (c + lm xs k + lm ys k) / 65536, _, by omega, by go_num, congrArg (Value.int .u32) (by have := HZY.out; omega), by omega, .inr (.inl (by omega)), HAT.out.step HX.out HY.out, HO6.out, HB6.out⟩
          case measure => simp [intOf]; omega
    · by_cases hly : k < ys.length
      · obtain ⟨B2, o2, rfl, hc2'⟩ : ∃ B o, a2 = some ⟨B, o, none⟩ ∧ wr.cell? ⟨B, o + k, none⟩ = some (.int .u32 (lm ys k : Nat)) := by
          obtain ⟨_, a', c', he, _, _, h3⟩ := HN2.out.below HBE.out
          simp only [Value.slice.injEq] at he
          obtain ⟨rfl, _, rfl⟩ := he
          obtain ⟨b, off, rfl, hc⟩ := h3 (ne_nil hly)
          exact ⟨b, off, rfl, hc k hly⟩
        have HZX := hide (lm_over xs k (by omega))
        go_wp2_with (at_builtin; refine wpList_append_own _ rfl _ _ 23 rfl w.heap.size 63 i0 (.int .u32 0) 1 4 Try.underlying23 hi hz0 hz1 hz2 rfl (by decide) _ _ _ rfl (World.ownsRow.alloc HO.out _) ⟨_, 0, none⟩ 1 1 [.int .u32 (((c : Int) + (lm ys k : Int)) % 65536)] rfl rfl ?_ ?_ ?_ ?_ ?_ ?_)
        · intro i u hi'
          match i, hi' with
          | 0, hi' => simp at hi'; subst hi'; simp [Addr.add]
        · intro u hu; simp at hu; subst hu; rfl
        · unfold maxLen; omega
        · omega
        · simp; omega
        · intro v6 w6 hown6 hgrow6 _
          obtain ⟨hO6, hB6⟩ := own_step (n := (c + lm xs k + lm ys k) % 65536) (by have := HZX.out; omega) HO.out hown6 hgrow6 HBE.out hbs (Nat.le_refl _)
          have HO6 := hide hO6
          have HB6 := hide hB6
          clear hown6 hgrow6 hO6 hB6
          go_wp2
          go_roundw
          case rel => exact ⟨k + 1, (c + lm xs k + lm ys k) / 65536, _, by omega, by go_num, congrArg (Value.int .u32) (by have := HZX.out; omega), by omega, .inr (.inr (by omega)), HAT.out.step HX.out HY.out, HO6.out, HB6.out⟩
          case measure => simp [intOf]; omega
      · by_cases hc0 : 0 < c
        · have HZX := hide (lm_over xs k (by omega))
          have HZY := hide (lm_over ys k (by omega))
          go_wp2_with (at_builtin; refine wpList_append_own _ rfl _ _ 23 rfl w.heap.size 63 i0 (.int .u32 0) 1 4 Try.underlying23 hi hz0 hz1 hz2 rfl (by decide) _ _ _ rfl (World.ownsRow.alloc HO.out _) ⟨_, 0, none⟩ 1 1 [.int .u32 (((c : Int)) % 65536)] rfl rfl ?_ ?_ ?_ ?_ ?_ ?_)
          · intro i u hi'
            match i, hi' with
            | 0, hi' => simp at hi'; subst hi'; simp [Addr.add]
          · intro u hu; simp at hu; subst hu; rfl
          · unfold maxLen; omega
          · omega
          · simp; omega
          · intro v6 w6 hown6 hgrow6 _
            obtain ⟨hO6, hB6⟩ := own_step (n := (c + lm xs k + lm ys k) % 65536) (by have := HZX.out; have := HZY.out; omega) HO.out hown6 hgrow6 HBE.out hbs (Nat.le_refl _)
            have HO6 := hide hO6
            have HB6 := hide hB6
            clear hown6 hgrow6 hO6 hB6
            go_wp2
            go_roundw
            case rel => exact ⟨k + 1, (c + lm xs k + lm ys k) / 65536, _, by rcases HD.out with h | h | h <;> omega, by go_num, congrArg (Value.int .u32) (by have := HZX.out; have := HZY.out; omega), by omega, .inl (by have := HZX.out; have := HZY.out; omega), HAT.out.step HX.out HY.out, HO6.out, HB6.out⟩
            case measure => simp [intOf]; omega
        · have e : c = 0 := by omega
          subst e
          go_wp2
          go_ret
          exact ⟨_, rfl, acc, HO.out.nums (dok HAT.out.ok), HAT.out.ok, HAT.out.last (by omega) (by omega), HBE.out⟩

/-- a difference's state behind k digits -/
structure MinusAt (xs ys : List Nat) (k b : Nat) (acc : List Nat) : Prop where
  len : acc.length = k
  ok : D.Ok acc
  b1 : b ≤ 1
  sum : D.val acc + D.val (ys.take k) = D.val (xs.take k) + 65536 ^ k * b
theorem MinusAt.start (xs ys : List Nat) : MinusAt xs ys 0 0 [] := ⟨rfl, D.Ok.nil, by decide, by simp [D.val]⟩
theorem MinusAt.yes {xs ys : List Nat} {k b : Nat} {acc : List Nat} (h : MinusAt xs ys k b acc) (hx : D.Ok xs) (hy : D.Ok ys) (hlt : lm xs k < b + lm ys k) : MinusAt xs ys (k + 1) 1 (acc ++ [lm xs k + 65536 - (b + lm ys k)]) := by
  have h1 := dlm_lt hx k
  have h2 := dlm_lt hy k
  have h3 := h.b1
  refine ⟨by rw [List.length_append, h.len]; rfl, h.ok.append (D.Ok.cons (by unfold D.BB; omega) D.Ok.nil), by omega, ?_⟩
  rw [D.val_append, h.len, dtake_succ, dtake_succ, Nat.pow_succ]
  simp only [D.val, Nat.mul_zero, Nat.add_zero]
  show D.val acc + 65536 ^ k * (lm xs k + 65536 - (b + lm ys k)) + (D.val (ys.take k) + 65536 ^ k * lm ys k) = D.val (xs.take k) + 65536 ^ k * lm xs k + 65536 ^ k * 65536 * 1
  obtain ⟨d, hd⟩ : ∃ d, d + (b + lm ys k) = lm xs k + 65536 := ⟨lm xs k + 65536 - (b + lm ys k), by omega⟩
  rw [← hd, Nat.add_sub_cancel, Nat.mul_one]
  have e : 65536 ^ k * d + (65536 ^ k * b + 65536 ^ k * lm ys k) = 65536 ^ k * lm xs k + 65536 ^ k * 65536 := by rw [← Nat.mul_add, ← Nat.mul_add, hd, Nat.mul_add]
  have := h.sum
  omega
theorem MinusAt.no {xs ys : List Nat} {k b : Nat} {acc : List Nat} (h : MinusAt xs ys k b acc) (hx : D.Ok xs) (hy : D.Ok ys) (hlt : ¬ lm xs k < b + lm ys k) : MinusAt xs ys (k + 1) 0 (acc ++ [lm xs k - (b + lm ys k)]) := by
  have h1 := dlm_lt hx k
  have h2 := dlm_lt hy k
  refine ⟨by rw [List.length_append, h.len]; rfl, h.ok.append (D.Ok.cons (by unfold D.BB; omega) D.Ok.nil), by omega, ?_⟩
  rw [D.val_append, h.len, dtake_succ, dtake_succ]
  simp only [D.val, Nat.mul_zero, Nat.add_zero]
  show D.val acc + 65536 ^ k * (lm xs k - (b + lm ys k)) + (D.val (ys.take k) + 65536 ^ k * lm ys k) = D.val (xs.take k) + 65536 ^ k * lm xs k
  obtain ⟨d, hd⟩ : ∃ d, d + (b + lm ys k) = lm xs k := ⟨lm xs k - (b + lm ys k), by omega⟩
  rw [← hd, Nat.add_sub_cancel]
  have e : 65536 ^ k * d + (65536 ^ k * b + 65536 ^ k * lm ys k) = 65536 ^ k * (d + (b + lm ys k)) := by rw [← Nat.mul_add, ← Nat.mul_add]
  have := h.sum
  omega
theorem MinusAt.last {xs ys : List Nat} {b : Nat} {acc : List Nat} (h : MinusAt xs ys xs.length b acc) (hl : ys.length ≤ xs.length) (hle : D.val ys ≤ D.val xs) : D.val acc = D.val xs - D.val ys := by
  have h1 := h.sum
  rw [List.take_length, List.take_of_length_le hl] at h1
  have h2 := D.val_lt h.ok
  rw [h.len] at h2
  have h3 : D.BB ^ xs.length = 65536 ^ xs.length := rfl
  rcases Nat.le_one_iff_eq_zero_or_eq_one.1 h.b1 with e | e
  · rw [e, Nat.mul_zero] at h1; omega
  · rw [e, Nat.mul_one] at h1; omega

set_option maxRecDepth 100000 in
set_option maxHeartbeats 4000000 in
theorem rminus_own (v1 v2 : Value) (xs ys : List Nat) (w : World) (h1 : Nums w v1 xs) (h2 : Nums w v2 ys) (hx : D.Ok xs) (hy : D.Ok ys) (b1 : xs.length ≤ 100000000) (hl : ys.length ≤ xs.length) (hle : D.val ys ≤ D.val xs) :
    Calls Try.prog 56 #[v1, v2] w fun e w' => ∃ v' acc, e = .returned v' ∧ Own w' w.heap.size v' acc ∧ D.Ok acc ∧ D.val acc = D.val xs - D.val ys ∧ Below w.heap.size w w' := by
  obtain ⟨i0, hi, hz0, hz1, hz2⟩ := info_parts Try.info63
  have HX := hide hx
  have HY := hide hy
  have HLY := hide hl
  have HLE := hide hle
  have HN1 := hide h1
  have HN2 := hide h2
  obtain ⟨_, a1, c1, rfl, _, hm1, _⟩ := h1
  obtain ⟨_, a2, c2, rfl, _, hm2, _⟩ := h2
  clear hx hy hle
  unfold maxLen at hm1 hm2
  go_enter Try.func56, Try.ntmps56
  go_wp2
  go_loopw [5, 6, 7] (fun ov cv iv wr => ∃ (k c : Nat) (acc : List Nat), k ≤ xs.length ∧ iv = .int .i64 k ∧ cv = .int .u32 c ∧ c ≤ 1 ∧ MinusAt xs ys k c acc ∧ Own wr w.heap.size ov acc ∧ Below w.heap.size w wr) (fun _ _ iv _ => xs.length - (intOf iv).toNat)
  case atStart => exact ⟨0, 0, [], by omega, rfl, rfl, by omega, MinusAt.start xs ys, World.ownsRow_nil _ _ _ _, Below.refl _ _⟩
  case round =>
    obtain ⟨k, c, acc, hk, rfl, rfl, hc1, hat, hO, hbel⟩ := hrel
    have HAT := hide hat
    have HO := hide hO
    have HBE := hide hbel
    have hal : acc.length ≤ 100000001 := by rw [hat.len]; omega
    have hdx := dlm_lt HX.out k
    have hdy := dlm_lt HY.out k
    have hbs := hbel.size
    clear hat hO hbel
    by_cases hlx : k < xs.length
    · obtain ⟨B1, o1, rfl, hc1'⟩ : ∃ B o, a1 = some ⟨B, o, none⟩ ∧ wr.cell? ⟨B, o + k, none⟩ = some (.int .u32 (lm xs k : Nat)) := by
        obtain ⟨_, a', c', he, _, _, h3⟩ := HN1.out.below HBE.out
        simp only [Value.slice.injEq] at he
        obtain ⟨rfl, _, rfl⟩ := he
        obtain ⟨b, off, rfl, hc⟩ := h3 (ne_nil hlx)
        exact ⟨b, off, rfl, hc k hlx⟩
      by_cases hly : k < ys.length
      · obtain ⟨B2, o2, rfl, hc2'⟩ : ∃ B o, a2 = some ⟨B, o, none⟩ ∧ wr.cell? ⟨B, o + k, none⟩ = some (.int .u32 (lm ys k : Nat)) := by
          obtain ⟨_, a', c', he, _, _, h3⟩ := HN2.out.below HBE.out
          simp only [Value.slice.injEq] at he
          obtain ⟨rfl, _, rfl⟩ := he
          obtain ⟨b, off, rfl, hc⟩ := h3 (ne_nil hly)
          exact ⟨b, off, rfl, hc k hly⟩
        by_cases hbo : lm xs k < c + lm ys k
        · have hboI : (lm xs k : Int) < (c : Int) + (lm ys k : Int) := by omega
          go_wp2_with (at_builtin; refine wpList_append_own _ rfl _ _ 23 rfl w.heap.size 63 i0 (.int .u32 0) 1 4 Try.underlying23 hi hz0 hz1 hz2 rfl (by decide) _ _ _ rfl (World.ownsRow.alloc HO.out _) ⟨_, 0, none⟩ 1 1 [.int .u32 ((lm xs k : Int) + 65536 - ((c : Int) + (lm ys k : Int)))] rfl rfl ?_ ?_ ?_ ?_ ?_ ?_)
          · intro i u hi'
            match i, hi' with
            | 0, hi' => simp at hi'; subst hi'; simp [Addr.add]
          · intro u hu; simp at hu; subst hu; rfl
          · unfold maxLen; omega
          · omega
          · simp; omega
          · intro v6 w6 hown6 hgrow6 _
            obtain ⟨hO6, hB6⟩ := own_step (n := lm xs k + 65536 - (c + lm ys k)) (by omega) HO.out hown6 hgrow6 HBE.out hbs (Nat.le_refl _)
            have HO6 := hide hO6
            have HB6 := hide hB6
            clear hown6 hgrow6 hO6 hB6
            go_wp2
            go_roundw
            case rel => exact ⟨k + 1, 1, _, by omega, by go_num, rfl, by omega, HAT.out.yes HX.out HY.out (by omega), HO6.out, HB6.out⟩
            case measure => simp [intOf]; omega
        · have hboI : ¬ (lm xs k : Int) < (c : Int) + (lm ys k : Int) := by omega
          go_wp2_with (at_builtin; refine wpList_append_own _ rfl _ _ 23 rfl w.heap.size 63 i0 (.int .u32 0) 1 4 Try.underlying23 hi hz0 hz1 hz2 rfl (by decide) _ _ _ rfl (World.ownsRow.alloc HO.out _) ⟨_, 0, none⟩ 1 1 [.int .u32 ((lm xs k : Int) - ((c : Int) + (lm ys k : Int)))] rfl rfl ?_ ?_ ?_ ?_ ?_ ?_)
          · rfl
          · unfold maxLen; omega
          · omega
          · first | omega | (simp; omega)
          · intro v6 w6 hown6 hgrow6 _
            obtain ⟨hO6, hB6⟩ := own_step (n := lm xs k - (c + lm ys k)) (by omega) HO.out hown6 hgrow6 HBE.out hbs (Nat.le_refl _)
            have HO6 := hide hO6
            have HB6 := hide hB6
            clear hown6 hgrow6 hO6 hB6
            go_wp2
            go_roundw
            case rel => exact ⟨k + 1, 0, _, by omega, by go_num, rfl, by omega, HAT.out.no HX.out HY.out (by omega), HO6.out, HB6.out⟩
            case measure => simp [intOf]; omega
      · by_cases hbo : lm xs k < c
        · have hboI : (lm xs k : Int) < (c : Int) := by omega
          have HZY := hide (lm_over ys k (by omega))
          go_wp2_with (at_builtin; refine wpList_append_own _ rfl _ _ 23 rfl w.heap.size 63 i0 (.int .u32 0) 1 4 Try.underlying23 hi hz0 hz1 hz2 rfl (by decide) _ _ _ rfl (World.ownsRow.alloc HO.out _) ⟨_, 0, none⟩ 1 1 [.int .u32 ((lm xs k : Int) + 65536 - (c : Int))] rfl rfl ?_ ?_ ?_ ?_ ?_ ?_)
          · intro i u hi'
            match i, hi' with
            | 0, hi' => simp at hi'; subst hi'; simp [Addr.add]
          · intro u hu; simp at hu; subst hu; rfl
          · unfold maxLen; omega
          · omega
          · simp; omega
          · intro v6 w6 hown6 hgrow6 _
            obtain ⟨hO6, hB6⟩ := own_step (n := lm xs k + 65536 - (c + lm ys k)) (by have := HZY.out; omega) HO.out hown6 hgrow6 HBE.out hbs (Nat.le_refl _)
            have HO6 := hide hO6
            have HB6 := hide hB6
            clear hown6 hgrow6 hO6 hB6
            go_wp2
            go_roundw
            case rel => exact ⟨k + 1, 1, _, by omega, by go_num, rfl, by omega, HAT.out.yes HX.out HY.out (by have := HZY.out; omega), HO6.out, HB6.out⟩
            case measure => simp [intOf]; omega
        · have hboI : ¬ (lm xs k : Int) < (c : Int) := by omega
          have HZY := hide (lm_over ys k (by omega))
          go_wp2_with (at_builtin; refine wpList_append_own _ rfl _ _ 23 rfl w.heap.size 63 i0 (.int .u32 0) 1 4 Try.underlying23 hi hz0 hz1 hz2 rfl (by decide) _ _ _ rfl (World.ownsRow.alloc HO.out _) ⟨_, 0, none⟩ 1 1 [.int .u32 ((lm xs k : Int) - (c : Int))] rfl rfl ?_ ?_ ?_ ?_ ?_ ?_)
          · rfl
          · unfold maxLen; omega
          · omega
          · first | omega | (simp; omega)
          · intro v6 w6 hown6 hgrow6 _
            obtain ⟨hO6, hB6⟩ := own_step (n := lm xs k - (c + lm ys k)) (by have := HZY.out; omega) HO.out hown6 hgrow6 HBE.out hbs (Nat.le_refl _)
            have HO6 := hide hO6
            have HB6 := hide hB6
            clear hown6 hgrow6 hO6 hB6
            go_wp2
            go_roundw
            case rel => exact ⟨k + 1, 0, _, by omega, by go_num, rfl, by omega, HAT.out.no HX.out HY.out (by have := HZY.out; omega), HO6.out, HB6.out⟩
            case measure => simp [intOf]; omega
    · have e : k = xs.length := by omega
      subst e
      go_wp2
      go_ret
      exact ⟨_, acc, rfl, HO.out, HAT.out.ok, HAT.out.last HLY.out HLE.out, HBE.out⟩
theorem rminus_any (v1 v2 : Value) (xs ys : List Nat) (w : World) (h1 : Nums w v1 xs) (h2 : Nums w v2 ys) (hx : D.Ok xs) (hy : D.Ok ys) (b1 : xs.length ≤ 100000000) (hl : ys.length ≤ xs.length) (hle : D.val ys ≤ D.val xs) :
    Calls Try.prog 56 #[v1, v2] w fun e w' => ∃ v' acc, e = .returned v' ∧ Nums w' v' acc ∧ D.Ok acc ∧ D.val acc = D.val xs - D.val ys ∧ Below w.heap.size w w' :=
  (rminus_own v1 v2 xs ys w h1 h2 hx hy b1 hl hle).mono fun _ _ ⟨v', acc, he, ho, ok, hv, hb⟩ => ⟨v', acc, he, ho.nums (dok ok), ok, hv, hb⟩
end Go.Proofs.Ytngdnekbajnomaa
