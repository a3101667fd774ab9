/- What is made of what is made is it again; how many values are alive at once. Plain mathematics. -/
import Derived.Test.YtheakienigmkhaaOrM2
namespace Go.Proofs.Ytheakienigmkhaa
open Go.RowKit

theorem seat_eq {un : List Int} {k t : Nat} (ht : t < un.length) (h1 : ot un t ≤ k) (h2 : ∀ R, R < t → (k : Int) + 1 ≤ ot un R) : seatOf un k = t := by
  have e : ∀ R (hR : R < un.length), ot un R = un[R] := fun R hR => by unfold ot; simp [hR]
  have hlt : seatOf un k < un.length := by
    unfold seatOf
    rw [List.findIdx_lt_length]
    exact ⟨un[t], List.getElem_mem _, by rw [decide_eq_true_eq, ← e t ht]; exact h1⟩
  have h3 : ot un (seatOf un k) ≤ k := by rw [e _ hlt]; exact of_decide_eq_true (List.findIdx_getElem (w := hlt))
  rcases Nat.lt_trichotomy (seatOf un k) t with h | h | h
  · have := h2 _ h; omega
  · exact h
  · exfalso
    have h6 := List.not_of_lt_findIdx h
    simp at h6
    rw [e t ht] at h1
    omega
/-- the seats of what is made, given anew -/
structure AInv (p : Pg) (k : Nat) (s : PS) : Prop where
  code : s.code = (psAt p k).code
  live : ∀ R : Nat, R < (packP p).regs.toNat → (k : Int) ≤ ot (psAt p k).un R → ot s.un R = ixP p (ot (psAt p k).un R) ∧ ot s.of R = R
  dead : ∀ R : Nat, R < (packP p).regs.toNat → ot (psAt p k).un R < k → ot s.un R < mN p k
theorem AInv.start {p : Pg} (hr : rightB p = true) : AInv p 0 (psAt (packP p) (mN p 0)) := by
  have hp := right_parts hr
  have hq := right_parts (pk_right hr)
  have hf := pk_fewer hr
  have hm : mN p 0 = 0 := rfl
  rw [hm]
  have hI : (packP p).ins = p.ins := rfl
  have hB := fun R hR => pk_until hr p.code.length 0 (by omega) R hR
  rw [hm] at hB
  have h0 : (psAt p 0) = ps0 p := rfl
  have h1 : (psAt (packP p) 0) = ps0 (packP p) := rfl
  rw [h0] at hB
  have hz := fstL_zero p p.regs.toNat
  have hzq := fstL_zero (packP p) (packP p).regs.toNat
  have huq : ∀ R, R < (packP p).regs.toNat → ot (ps0 (packP p)).un R = uAt (packP p) 0 R ∨ (p.ins.toNat < R ∧ ot (ps0 (packP p)).un R = -1) := fun R hR => by
    rw [ps0_un hR, hI]
    by_cases h : R < p.ins.toNat
    · left
      rw [if_pos (by omega)]
      unfold fst_
      rw [fstL_in (packP p) R (by rw [hI]; exact h), if_pos hR]
    · by_cases h2 : R = p.ins.toNat
      · left
        rw [if_pos (by omega)]
        have q1 := hzq.2.1 R (by rw [hI]; omega) hR
        show ot (fstL (packP p) (packP p).regs.toNat) R = _
        rw [hI, ← h2] at hzq
        rw [hI, ← h2] at q1
        rcases uAt_bound (p := packP p) (k := 0) (Nat.zero_le _) R with hu | hu
        · false_or_by_contra
          rename_i hne
          obtain ⟨r, r1, r2, r3⟩ := hzq.2.2 (by have := hzq.1; omega)
          have hne2 : r ≠ R := by rintro rfl; omega
          have hb := hB r (by omega)
          have e0 : ot (ps0 p).un r = -1 := by rw [ps0_un (by omega), if_neg (by omega)]
          rw [e0, if_neg (by omega)] at hb
          have := hzq.1
          omega
        · false_or_by_contra
          rename_i hne
          obtain ⟨r, r1, r2, r3⟩ := hzq.2.2 (by omega)
          have hne2 : r ≠ R := by rintro rfl; omega
          have hb := hB r (by omega)
          have e0 : ot (ps0 p).un r = -1 := by rw [ps0_un (by omega), if_neg (by omega)]
          rw [e0, if_neg (by omega)] at hb
          omega
      · right
        exact ⟨by omega, if_neg (by omega)⟩
  refine ⟨rfl, fun R hR hu => ?_, fun R hR hu => ?_⟩
  · rw [h0] at hu ⊢
    rw [h1]
    have hin : R ≤ p.ins.toNat := by
      false_or_by_contra
      rw [ps0_un (by omega), if_neg (by omega)] at hu
      omega
    refine ⟨?_, ?_⟩
    · rcases huq R hR with e | ⟨e, _⟩
      · rw [e, hB R (by omega), if_pos hu]
      · omega
    · show ot (ofL (packP p) (packP p).regs.toNat) R = R
      unfold ofL
      rw [ot_map_range hR, hI]
      omega
  · rw [h0] at hu
    rw [h1]
    rcases huq R hR with e | ⟨_, e⟩
    · rw [e, hB R (by omega), if_neg (by omega)]; omega
    · rw [e]; omega
theorem psAt_idle {p : Pg} {k : Nat} (h : setA p k = -1) : psAt p (k + 1) = psAt p k := by show pstep p k (psAt p k) = _; unfold pstep; rw [if_pos h]
theorem psAt_need {p : Pg} {k : Nat} (h : setA p k ≠ -1) : psAt p (k + 1) = ⟨(psAt p k).of.set (cd p.code k).to.toNat (seatOf (psAt p k).un k : Nat), (psAt p k).un.set (seatOf (psAt p k).un k) (setA p k), (psAt p k).code ++ [mvd (cd p.code k) (seatOf (psAt p k).un k : Nat) (psAt p k).of]⟩ := by
  show pstep p k (psAt p k) = _; unfold pstep; rw [if_neg h]
theorem AInv.step {p : Pg} (hr : rightB p = true) {k : Nat} (hk : k < p.code.length) (h : AInv p k (psAt (packP p) (mN p k))) : AInv p (k + 1) (psAt (packP p) (mN p (k + 1))) := by
  have hi := psAt_inv hr k (by omega)
  by_cases hn : setA p k = -1
  · rw [mN_idle p hn]
    have e := psAt_idle hn
    refine ⟨by rw [e]; exact h.code, fun R hR hu => ?_, fun R hR hu => ?_⟩
    · rw [e] at hu ⊢; exact h.live R hR (by omega)
    · rw [e] at hu
      rw [mN_idle p hn]
      by_cases h2 : ot (psAt p k).un R < k
      · exact h.dead R hR h2
      · exfalso
        have hf := pk_fewer hr
        obtain ⟨r, r1, r2, r3⟩ := hi.D R (by omega) (by omega)
        exact (uAt_eq hk (r := r) (by omega)).1 hn
  · obtain ⟨t1, t2, t3⟩ := hi.seat hr hk hn
    obtain ⟨q1, q2⟩ := pk_at hk hn
    have hsq := pk_setA hr hk hn
    have hb := setA_bound hk
    have hge := ixP_ge p (show ((k + 1 : Nat) : Int) ≤ setA p k by omega)
    rw [mN_need p hn] at hge
    have hnq : setA (packP p) (mN p k) ≠ -1 := by rw [hsq]; omega
    have hqr := pk_right hr
    have hiq := psAt_inv hqr (mN p k) (by omega)
    have hmem : mvd (cd p.code k) (seatOf (psAt p k).un k : Nat) (psAt p k).of ∈ (psAt p p.code.length).code := by
      rw [← q2]
      unfold cd
      rw [← pk_code]
      simp [q1]
    have hreg := regsOf_code (ins := p.ins) (outs := pkOuts p) hmem
    have hR : (packP p).regs = regsOf p.ins (psAt p p.code.length).code (pkOuts p) := rfl
    rw [← hR] at hreg
    have ht : seatOf (psAt p k).un k < (packP p).regs.toNat := by
      have := hreg.1
      have e : (mvd (cd p.code k) (seatOf (psAt p k).un k : Nat) (psAt p k).of).to = ((seatOf (psAt p k).un k : Nat) : Int) := rfl
      omega
    have hseat : seatOf (psAt (packP p) (mN p k)).un (mN p k) = seatOf (psAt p k).un k := by
      refine seat_eq (by rw [hiq.lu]; exact ht) ?_ (fun R hRt => ?_)
      · by_cases h2 : ot (psAt p k).un (seatOf (psAt p k).un k) = k
        · rw [(h.live _ ht (by omega)).1, h2, ixP_at]; omega
        · have := h.dead _ ht (by omega); omega
      · have h3 := t3 R hRt
        rw [(h.live R (by omega) (by omega)).1]
        have := ixP_ge p (show ((k + 1 : Nat) : Int) ≤ ot (psAt p k).un R by omega)
        rw [mN_need p hn] at this
        omega
    have hask : ∀ a ∈ asksL (cd p.code k), ot (psAt (packP p) (mN p k)).of (ot (psAt p k).of a.toNat).toNat = ot (psAt p k).of a.toNat := fun a ha => by
      have hba := ask_toNat hr hk ha
      have hu := uAt_ask hk hn ha
      have hc := hi.C a.toNat hba.2 (by rw [hba.1]; omega)
      rw [hba.1] at hc
      have h0 := hi.ofR a.toNat hba.2
      have h4 := hreg.2 (ot (psAt p k).of a.toNat) (by rw [asks_mvd]; exact List.mem_map.2 ⟨a, ha, rfl⟩)
      have := (h.live (ot (psAt p k).of a.toNat).toNat (by omega) (by omega)).2
      omega
    have hm := (right_parts hr).2.2.2.2.2.2.2 k hk
    have hmp := may_parts hm
    have hia : (cd p.code k).a ∈ asksL (cd p.code k) := by
      unfold asksL
      split
      · simp
      · rw [if_pos (by omega)]; simp
    have hmv : mvd (mvd (cd p.code k) (seatOf (psAt p k).un k : Nat) (psAt p k).of) (seatOf (psAt p k).un k : Nat) (psAt (packP p) (mN p k)).of = mvd (cd p.code k) (seatOf (psAt p k).un k : Nat) (psAt p k).of := by
      have ha := hask _ hia
      unfold mvd
      dsimp only
      rw [ha]
      cases htw : twoB (cd p.code k).op with
      | false => simp
      | true =>
        have hib : (cd p.code k).b ∈ asksL (cd p.code k) := by
          unfold asksL
          rw [if_pos (by unfold twoB at htw; simpa using htw)]
          simp
        have hb2 := hask _ hib
        simp only [if_true]
        rw [hb2]
    have e1 := psAt_need hn
    have e2 := psAt_need hnq
    rw [hseat, q2, hsq, hmv] at e2
    rw [mN_need p hn, e2]
    have hto : (mvd (cd p.code k) (seatOf (psAt p k).un k : Nat) (psAt p k).of).to.toNat = seatOf (psAt p k).un k := by show ((seatOf (psAt p k).un k : Nat) : Int).toNat = _; omega
    rw [hto]
    have hu1 := hi.lu
    have hu2 := hiq.lu
    have hu3 := hiq.lo
    have hf := pk_fewer hr
    refine ⟨by rw [e1]; show _ ++ _ = _ ++ _; rw [h.code], fun R hR2 hu => ?_, fun R hR2 hu => ?_⟩
    · show ot ((psAt (packP p) (mN p k)).un.set _ _) R = ixP p (ot ((psAt p (k + 1)).un) R) ∧ ot ((psAt (packP p) (mN p k)).of.set _ _) R = R
      rw [e1] at hu ⊢
      dsimp only at hu ⊢
      by_cases e : seatOf (psAt p k).un k = R
      · subst e
        rw [ot_setI, if_pos ⟨rfl, by omega⟩, ot_setI, if_pos ⟨rfl, by omega⟩, ot_setI, if_pos ⟨rfl, by omega⟩]
        exact ⟨rfl, rfl⟩
      · have eR : ot ((psAt p k).un.set (seatOf (psAt p k).un k) (setA p k)) R = ot (psAt p k).un R := by rw [ot_setI, if_neg (fun q => e q.1)]
        rw [eR] at hu ⊢
        rw [ot_setI, if_neg (fun q => e q.1), ot_setI, if_neg (fun q => e q.1)]
        exact h.live R hR2 (by omega)
    · show ot ((psAt (packP p) (mN p k)).un.set _ _) R < _
      rw [e1] at hu
      dsimp only at hu
      have e : seatOf (psAt p k).un k ≠ R := by
        rintro rfl
        rw [ot_setI, if_pos ⟨rfl, by omega⟩] at hu
        omega
      have eR : ot ((psAt p k).un.set (seatOf (psAt p k).un k) (setA p k)) R = ot (psAt p k).un R := by rw [ot_setI, if_neg (fun q => e q.1)]
      rw [eR] at hu
      rw [ot_setI, if_neg (fun q => e q.1), mN_need p hn]
      by_cases h2 : ot (psAt p k).un R < k
      · have := h.dead R hR2 h2; omega
      · have h3 : ot (psAt p k).un R = k := by omega
        rw [(h.live R hR2 (by omega)).1, h3, ixP_at]; omega
theorem psAt_again {p : Pg} (hr : rightB p = true) : ∀ k, k ≤ p.code.length → AInv p k (psAt (packP p) (mN p k))
  | 0, _ => AInv.start hr
  | k + 1, h => (psAt_again hr k (by omega)).step hr (by omega)
theorem pk_again {p : Pg} (hr : rightB p = true) : packP (packP p) = packP p := by
  have h := psAt_again hr p.code.length (Nat.le_refl _)
  have hl : mN p p.code.length = (packP p).code.length := rfl
  rw [hl] at h
  have hi := psAt_inv hr _ (Nat.le_refl p.code.length)
  have hc : (psAt (packP p) (packP p).code.length).code = (packP p).code := h.code
  have ho : pkOuts (packP p) = pkOuts p := by
    unfold pkOuts
    show List.map _ (pkOuts p) = _
    unfold pkOuts
    rw [List.map_map]
    refine List.map_congr_left (fun o ho => ?_)
    have hb := out_toNat hr ho
    have hu : uAt p p.code.length o = p.code.length := by rw [uAt_end, if_pos ho]
    have hcc := hi.C o.toNat hb.2 (by rw [hb.1]; omega)
    rw [hb.1] at hcc
    have h0 := hi.ofR o.toNat hb.2
    have h4 : ot (psAt p p.code.length).of o.toNat < (packP p).regs := regsOf_out (List.mem_map.2 ⟨o, ho, rfl⟩)
    have := (h.live (ot (psAt p p.code.length).of o.toNat).toNat (by omega) (by omega)).2
    show ot _ (ot _ o.toNat).toNat = _
    omega
  show (⟨p.ins, regsOf p.ins (psAt (packP p) (packP p).code.length).code (pkOuts (packP p)), (psAt (packP p) (packP p).code.length).code, pkOuts (packP p)⟩ : Pg) = _
  rw [hc, ho]
  rfl

/-! how many are alive -/
def cntK (j : Nat) (l : List Int) : Nat := l.countP (fun u => decide ((j : Int) ≤ u))
def lasts (p : Pg) (k : Nat) : List Int := fst_ p ++ (List.range k).map (setA p)
def alN (p : Pg) (k : Nat) : Nat := cntK k (lasts p k)
def mostN (p : Pg) : Nat → Nat
  | 0 => alN p 0
  | k + 1 => max (mostN p k) (alN p (k + 1))
theorem mostN_ge (p : Pg) : ∀ k j, j ≤ k → alN p j ≤ mostN p k
  | 0, j, h => by have e : j = 0 := by omega
                  subst e; exact Nat.le_refl _
  | k + 1, j, h => by
    simp only [mostN]
    by_cases e : j = k + 1
    · subst e; omega
    · have := mostN_ge p k j (by omega); omega
theorem lasts_succ (p : Pg) (k : Nat) : lasts p (k + 1) = lasts p k ++ [setA p k] := by unfold lasts; rw [List.range_succ, List.map_append, ← List.append_assoc]; rfl
theorem cntK_app (j : Nat) (l m : List Int) : cntK j (l ++ m) = cntK j l + cntK j m := List.countP_append ..
theorem cntK_one (j : Nat) (u : Int) : cntK j [u] = if (j : Int) ≤ u then 1 else 0 := by unfold cntK; by_cases h : (j : Int) ≤ u <;> simp [h]
theorem cntK_rep (j n : Nat) : cntK j (List.replicate n (-1)) = 0 := by
  unfold cntK
  rw [List.countP_replicate]
  rw [if_neg]
  simp
  omega
theorem cntK_set (j : Nat) (v : Int) : ∀ (l : List Int) (t : Nat), t < l.length → ot l t < j → cntK j (l.set t v) = cntK j l + (if (j : Int) ≤ v then 1 else 0)
  | [], t, h, _ => by simp at h
  | x :: l, 0, _, h => by
    have hx : ¬ (j : Int) ≤ x := by have : ot (x :: l) 0 = x := rfl
                                    omega
    unfold cntK
    by_cases h2 : (j : Int) ≤ v <;> simp [h2, hx]
  | x :: l, t + 1, ht, h => by
    have ih := cntK_set j v l t (by simpa using ht) (by have : ot (x :: l) (t + 1) = ot l t := by simp [ot]
                                                        omega)
    unfold cntK at ih ⊢
    simp only [List.set_cons_succ, List.countP_cons, ih]
    omega
theorem cntK_ge (j : Nat) : ∀ (l : List Int) (t : Nat), t ≤ l.length → (∀ R, R < t → (j : Int) ≤ ot l R) → t ≤ cntK j l
  | _, 0, _, _ => Nat.zero_le _
  | [], t + 1, h, _ => by simp at h
  | x :: l, t + 1, h, hR => by
    have ih := cntK_ge j l t (by simpa using h) (fun R hlt => by have := hR (R + 1) (by omega); simpa [ot] using this)
    have hx : (j : Int) ≤ x := hR 0 (by omega)
    unfold cntK at ih ⊢
    simp only [List.countP_cons, hx, decide_true, if_true]
    omega
theorem seats_cnt {p : Pg} (hr : rightB p = true) : ∀ k, k ≤ p.code.length → ∀ j, k ≤ j → cntK j (psAt p k).un = cntK j (lasts p k)
  | 0, _, j, _ => by
    have hp := right_parts hr
    have hl : (fst_ p).length = p.ins.toNat + 1 := fstL_length p _
    have hz := fstL_zero p p.regs.toNat
    show cntK j (ps0 p).un = _
    unfold lasts
    simp only [ps0, List.range_zero, List.map_nil, List.append_nil, cntK_app, cntK_rep, Nat.add_zero]
    by_cases h : p.ins.toNat + 1 ≤ p.regs.toNat
    · rw [List.take_of_length_le (by omega)]
    · have e : fst_ p = (fst_ p).take p.regs.toNat ++ [-1] := by
        have e1 : (fst_ p).drop p.regs.toNat = [-1] := by
          have hm : ot (fst_ p) p.ins.toNat = -1 := by
            false_or_by_contra
            rename_i hne
            have hz1 : -1 ≤ ot (fst_ p) p.ins.toNat := hz.1
            obtain ⟨r, r1, r2, _⟩ := hz.2.2 (show 0 ≤ ot (fst_ p) p.ins.toNat by omega)
            omega
          have e2 : p.regs.toNat = p.ins.toNat := by omega
          rw [e2, List.drop_eq_getElem_cons (by omega)]
          have e3 : (fst_ p)[p.ins.toNat] = -1 := by rw [← hm]; unfold ot; simp [hl]
          rw [e3, List.drop_of_length_le (by omega)]
        rw [← e1, List.take_append_drop]
      conv => rhs; rw [e]
      rw [cntK_app, cntK_one, if_neg (by omega), Nat.add_zero]
  | k + 1, hk, j, hj => by
    have ih := seats_cnt hr k (by omega) j (by omega)
    have hi := psAt_inv hr k (by omega)
    rw [lasts_succ, cntK_app, cntK_one, ← ih]
    by_cases hn : setA p k = -1
    · rw [psAt_idle hn, hn, if_neg (by omega), Nat.add_zero]
    · obtain ⟨t1, t2, t3⟩ := hi.seat hr (by omega) hn
      rw [psAt_need hn]
      exact cntK_set j _ _ _ (by rw [hi.lu]; exact t1) (by omega)
theorem seat_le {p : Pg} (hr : rightB p = true) {k : Nat} (hk : k < p.code.length) (hn : setA p k ≠ -1) : seatOf (psAt p k).un k < mostN p p.code.length := by
  have hi := psAt_inv hr k (by omega)
  obtain ⟨t1, t2, t3⟩ := hi.seat hr hk hn
  have hb := setA_bound hk
  have h1 := cntK_ge (k + 1) (psAt p k).un (seatOf (psAt p k).un k) (by rw [hi.lu]; omega) (fun R hR => by have := t3 R hR; omega)
  have h2 := seats_cnt hr k (by omega) (k + 1) (by omega)
  have h3 := mostN_ge p p.code.length (k + 1) (by omega)
  unfold alN at h3
  rw [lasts_succ, cntK_app, cntK_one, if_pos (by omega)] at h3
  omega
theorem of_le {p : Pg} (hr : rightB p = true) : ∀ k, k ≤ p.code.length → ∀ r, ot (psAt p k).of r < max (p.ins + 1) (mostN p p.code.length)
  | 0, _, r => by
    have hp := right_parts hr
    by_cases h : r < p.regs.toNat
    · have e : ot (psAt p 0).of r = (min r p.ins.toNat : Nat) := ot_map_range h
      rw [e]; omega
    · have hl : (psAt p 0).of.length = p.regs.toNat := by simp [psAt, ps0, ofL]
      rw [ot_out (by omega)]; omega
  | k + 1, hk, r => by
    have ih := of_le hr k (by omega) r
    by_cases hn : setA p k = -1
    · rw [psAt_idle hn]; exact ih
    · rw [psAt_need hn]
      have := seat_le hr (by omega) hn
      show ot (List.set _ _ _) r < _
      rw [ot_setI]
      split <;> omega
theorem pk_regs {p : Pg} (hr : rightB p = true) : (packP p).regs ≤ max (p.ins + 1) (mostN p p.code.length) :=
  pk_regs_le hr (by omega) (fun k hk r _ _ => of_le hr k hk r) (fun k hk hn => by have := seat_le hr hk hn; omega)
end Go.Proofs.Ytheakienigmkhaa
