/- The pass 'share' in plain words: values, keys, first holders; what the pass makes; the pass of that is that again. -/
import Derived.Test.YtclopelniopjkaaPgIn
import Derived.Test.YtclopelniopjkaaPgJoin1
import Derived.Test.YtclopelniopjkaaFoM
import Derived.Test.YtclopelniopjkaaPgChk
namespace Go.Proofs.Ytclopelniopjkaa
open Go.RowKit

/-- a key: an operation, what is asked, a constant -/
abbrev K4 := Int × Int × Int × Int
/-- what is kept while a program is gone through: what registers hold; keys with their values and first instructions; the next value -/
structure ShS where
  held : List Int
  keys : List (K4 × Int × Int)
  next : Int
def keyI (h : List Int) (i : Ins) : K4 :=
  (i.op, if i.op = 3 then min (ot h i.a.toNat) (ot h i.b.toNat) else ot h i.a.toNat,
    if i.op = 3 then max (ot h i.a.toNat) (ot h i.b.toNat) else if i.op = 4 then ot h i.b.toNat else 0, i.c)
def look (ks : List (K4 × Int × Int)) (k : K4) : Option (Int × Int) := (ks.find? (fun x => x.1 == k)).map (·.2)
/-- the first register that holds a value -/
def hold (h : List Int) (v : Int) : Int := if h.findIdx (fun x => x == v) < h.length then (h.findIdx (fun x => x == v) : Nat) else -1
/-- the value, and the first instruction -/
def ShS.val (s : ShS) (n : Int) (i : Ins) : Int × Int := if i.op = 1 then (ot s.held i.a.toNat, n) else (look s.keys (keyI s.held i)).getD (s.next, n)
def ShS.aft (s : ShS) (n : Int) (i : Ins) : ShS := if i.op = 1 ∨ (look s.keys (keyI s.held i)).isSome = true then s else ⟨s.held, s.keys ++ [(keyI s.held i, s.next, n)], s.next + 1⟩
def ShS.set (s : ShS) (t v : Int) : ShS := ⟨s.held.set t.toNat v, s.keys, s.next⟩
def ShS.go (s : ShS) (n : Int) (i : Ins) : ShS := (s.aft n i).set i.to (s.val n i).1
def shar (h : List Int) (i : Ins) (v : Int) : Ins := if 0 ≤ hold h v then ⟨1, i.to, hold h v, 0, 0⟩ else ⟨i.op, i.to, hold h (ot h i.a.toNat), if twoB i.op = true then hold h (ot h i.b.toNat) else 0, i.c⟩
def ShS.put (s : ShS) (n : Int) (i : Ins) : List Ins := if ot s.held i.to.toNat = (s.val n i).1 then [] else [shar s.held i (s.val n i).1]
def begS (p : Pg) : ShS := ⟨(List.range p.regs.toNat).map (fun r : Nat => min (r : Int) p.ins), [], p.ins + 1⟩
def runS (p : Pg) : Nat → ShS
  | 0 => begS p
  | k + 1 => (runS p k).go k (cd p.code k)
def codS (p : Pg) : Nat → List Ins
  | 0 => []
  | k + 1 => codS p k ++ (runS p k).put k (cd p.code k)
def shP (p : Pg) : Pg := ⟨p.ins, p.regs, codS p p.code.length, p.outs.map (fun r => hold (runS p p.code.length).held (ot (runS p p.code.length).held r.toNat))⟩

/-! ### first holders -/
theorem hold_get {h : List Int} {v : Int} (hv : 0 ≤ hold h v) : (hold h v).toNat < h.length ∧ ot h (hold h v).toNat = v := by
  unfold hold at hv ⊢
  split
  · rename_i hl
    refine ⟨by simpa using hl, ?_⟩
    have := List.findIdx_getElem (w := hl)
    rw [show ((List.findIdx (fun x => x == v) h : Nat) : Int).toNat = List.findIdx (fun x => x == v) h from rfl, ot_lt hl]
    simpa using this
  · rename_i hl
    rw [if_neg hl] at hv
    omega
theorem hold_mem {h : List Int} {k : Nat} (hk : k < h.length) : 0 ≤ hold h (ot h k) := by
  unfold hold
  have : List.findIdx (fun x => x == ot h k) h < h.length := List.findIdx_lt_length_of_exists ⟨ot h k, by rw [ot_lt hk]; exact List.getElem_mem hk, by simp⟩
  rw [if_pos this]
  omega
theorem hold_lt {h : List Int} {v : Int} (hv : 0 ≤ hold h v) : hold h v < h.length := by
  have := (hold_get hv).1
  omega
theorem hold_neg {h : List Int} {v : Int} (hv : ¬ 0 ≤ hold h v) : hold h v = -1 := by
  unfold hold at hv ⊢
  split
  · rename_i hl; rw [if_pos hl] at hv; omega
  · rfl
theorem hold_nd {h : List Int} {v : Int} (hn : 0 ≤ hold h v → False) (k : Nat) (hk : k < h.length) : ot h k ≠ v := fun e => hn (e ▸ hold_mem hk)
theorem hold_at {h : List Int} {v : Int} {k : Nat} (hk : k < h.length) (e : ot h k = v) (hb : ∀ j, j < k → ot h j ≠ v) : hold h v = k := by
  have hf : List.findIdx (fun x => x == v) h = k := by
    rw [List.findIdx_eq hk]
    refine ⟨by rw [← ot_lt hk, e]; simp, fun j hj => ?_⟩
    have := hb j hj
    rw [ot_lt (by omega)] at this
    simpa using this
  unfold hold
  rw [hf, if_pos hk]
theorem hold_none {h : List Int} {v : Int} (hb : ∀ j, j < h.length → ot h j ≠ v) : hold h v = -1 := by
  refine hold_neg fun hv => ?_
  exact hb _ (hold_get hv).1 (hold_get hv).2

/-! ### what is kept -/
structure ShOk (p : Pg) (k : Nat) (s : ShS) : Prop where
  len : s.held.length = p.regs.toNat
  val : ∀ r, r < s.held.length → 0 ≤ ot s.held r ∧ ot s.held r < s.next
  key : ∀ x ∈ s.keys, 0 ≤ x.2.1 ∧ x.2.1 < s.next ∧ 0 ≤ x.2.2 ∧ x.2.2 < k
  nxt : p.ins + 1 ≤ s.next ∧ s.next ≤ p.ins + 1 + k
  num : s.keys.length ≤ k
theorem ot_set {l : List Int} {j r : Nat} {v : Int} (hr : r < l.length) : ot (l.set j v) r = if j = r then v else ot l r := by
  rw [ot_lt (by simpa using hr), List.getElem_set, ot_lt hr]
theorem look_mem {ks : List (K4 × Int × Int)} {k : K4} {e : Int × Int} (h : look ks k = some e) : (k, e) ∈ ks := by
  unfold look at h
  rw [Option.map_eq_some_iff] at h
  obtain ⟨x, hx, rfl⟩ := h
  have h1 := List.mem_of_find?_eq_some hx
  have h2 := List.find?_some hx
  have : x.1 = k := by simpa using h2
  rw [← this]
  exact h1
theorem ShOk.beg {p : Pg} (h : rightB p = true) : ShOk p 0 (begS p) := by
  obtain ⟨p1, p2, p3, p4, p5, p6, p7, p8⟩ := right_parts h
  refine ⟨by simp [begS], fun r hr => ?_, fun x hx => by simp [begS] at hx, by simp [begS], by simp [begS]⟩
  have e : ot (begS p).held r = min (r : Int) p.ins := by
    rw [ot_lt hr]; simp [begS]
  rw [e]
  show 0 ≤ min (r : Int) p.ins ∧ min (r : Int) p.ins < p.ins + 1
  omega
theorem ShOk.reck {p : Pg} {k : Nat} {s : ShS} (h : ShOk p k s) {i : Ins} (hi : mayB i p.regs = true) : 0 ≤ (s.val k i).1 ∧ (s.val k i).1 < (s.aft k i).next ∧ (0 ≤ (s.val k i).2 ∧ (s.val k i).2 ≤ k) := by
  rw [may_iff] at hi
  unfold ShS.val ShS.aft
  by_cases h1 : i.op = 1
  · rw [if_pos h1, if_pos (.inl h1)]
    have := h.val i.a.toNat (by rw [h.len]; omega)
    dsimp only
    omega
  · rw [if_neg h1]
    cases hl : look s.keys (keyI s.held i) with
    | some e =>
      rw [if_pos (.inr rfl)]
      have := h.key _ (look_mem hl)
      dsimp only at this
      simp only [Option.getD_some]
      omega
    | none =>
      rw [if_neg (by simp [h1])]
      simp only [Option.getD_none]
      have := h.val i.a.toNat (by rw [h.len]; omega)
      omega
theorem ShOk.go {p : Pg} {k : Nat} {s : ShS} (h : ShOk p k s) {i : Ins} (hi : mayB i p.regs = true) : ShOk p (k + 1) (s.go k i) := by
  obtain ⟨r1, r2, r3⟩ := h.reck hi
  have hh : (s.aft k i).held = s.held := by unfold ShS.aft; split <;> rfl
  have hn : s.next ≤ (s.aft k i).next ∧ (s.aft k i).next ≤ s.next + 1 := by unfold ShS.aft; split <;> simp <;> omega
  unfold ShS.go ShS.set
  refine ⟨by simp [hh, h.len], fun r hr => ?_, ?_, ?_, ?_⟩
  · rw [hh] at hr ⊢
    have hr' : r < s.held.length := by simpa using hr
    rw [ot_set hr']
    have := h.val r hr'
    dsimp only
    split <;> omega
  · intro x hx
    replace hx : x ∈ (s.aft k i).keys := hx
    show 0 ≤ x.2.1 ∧ x.2.1 < (s.aft k i).next ∧ 0 ≤ x.2.2 ∧ x.2.2 < ((k + 1 : Nat) : Int)
    unfold ShS.aft at hx ⊢
    split at hx
    · rename_i hc
      rw [if_pos hc]
      have := h.key x hx
      omega
    · rename_i hc
      rw [if_neg hc]
      rcases List.mem_append.1 hx with hx | hx
      · have := h.key x hx
        dsimp only
        omega
      · simp only [List.mem_singleton] at hx
        subst hx
        rw [may_iff] at hi
        have := h.val i.a.toNat (by rw [h.len]; omega)
        dsimp only
        omega
  · have := h.nxt
    show p.ins + 1 ≤ (s.aft k i).next ∧ (s.aft k i).next ≤ p.ins + 1 + ((k + 1 : Nat) : Int)
    omega
  · show (s.aft k i).keys.length ≤ k + 1
    have := h.num
    unfold ShS.aft
    split <;> simp <;> omega
theorem runS_ok {p : Pg} (h : rightB p = true) : ∀ k, k ≤ p.code.length → ShOk p k (runS p k)
  | 0, _ => ShOk.beg h
  | k + 1, hk => (runS_ok h k (by omega)).go ((right_parts h).2.2.2.2.2.2.2 k (by omega))

/-! ### the pass again -/
/-- two states that differ in the numbers of first instructions alone -/
structure ShLike (s t : ShS) : Prop where
  held : t.held = s.held
  next : t.next = s.next
  keys : t.keys.map (fun x => (x.1, x.2.1)) = s.keys.map (fun x => (x.1, x.2.1))
theorem look_like : ∀ {ks ls : List (K4 × Int × Int)}, ls.map (fun x => (x.1, x.2.1)) = ks.map (fun x => (x.1, x.2.1)) → ∀ k, (look ls k).map (·.1) = (look ks k).map (·.1)
  | [], [], _, k => rfl
  | x :: ks, [], h, k => by simp at h
  | [], y :: ls, h, k => by simp at h
  | x :: ks, y :: ls, h, k => by
    simp only [List.map_cons, List.cons.injEq, Prod.mk.injEq] at h
    have ih := look_like h.2 k
    unfold look at ih ⊢
    rw [List.find?_cons, List.find?_cons, h.1.1]
    cases x.1 == k with
    | true => simp [h.1.2]
    | false => exact ih
theorem keyI_same {h : List Int} {i j : Ins} (h1 : j.op = i.op) (h2 : j.c = i.c) (h3 : ot h j.a.toNat = ot h i.a.toNat) (h4 : twoB i.op = true → ot h j.b.toNat = ot h i.b.toNat) : keyI h j = keyI h i := by
  unfold keyI
  rw [h1, h2, h3]
  by_cases e3 : i.op = 3
  · rw [h4 (by simp [twoB, e3])]
  · by_cases e4 : i.op = 4
    · rw [h4 (by simp [twoB, e4])]
    · simp [e3, e4]
theorem set_ot {l : List Int} {j : Nat} {v : Int} (hj : j < l.length) (h : ot l j = v) : l.set j v = l := by
  rw [← h, ot_lt hj, List.set_getElem_self]
/-- what comes behind an instruction that was put, from a state that is like -/
theorem like_step {p : Pg} {k : Nat} {s t : ShS} (hs : ShOk p k s) (hl : ShLike s t) {i : Ins} (hi : mayB i p.regs = true) (n : Int) :
    (s.put k i = [] ∧ ShLike (s.go k i) t) ∨ (∃ j, s.put k i = [j] ∧ ShLike (s.go k i) (t.go n j) ∧ t.put n j = [j] ∧ mayB j p.regs = true) := by
  obtain ⟨r1, r2, _⟩ := hs.reck hi
  have him := hi
  rw [may_iff] at hi
  have ha : i.a.toNat < s.held.length := by rw [hs.len]; omega
  have hb : i.b.toNat < s.held.length := by rw [hs.len]; omega
  have ht : i.to.toNat < s.held.length := by rw [hs.len]; omega
  -- a value that a register holds is no new one
  have hold_old : 0 ≤ hold s.held (s.val k i).1 → s.aft k i = s := by
    intro hv
    obtain ⟨g1, g2⟩ := hold_get hv
    have g3 := hs.val _ g1
    rw [g2] at g3
    unfold ShS.aft
    split
    · rfl
    · rename_i hc
      simp only [not_or] at hc
      unfold ShS.val at g3
      rw [if_neg hc.1] at g3
      cases hk : look s.keys (keyI s.held i) with
      | some e => rw [hk] at hc; simp at hc
      | none => rw [hk] at g3; simp at g3
  unfold ShS.put ShS.go
  by_cases he : ot s.held i.to.toNat = (s.val k i).1
  · refine .inl ⟨if_pos he, ?_⟩
    rw [hold_old (by rw [← he]; exact hold_mem ht)]
    have : s.set i.to (s.val k i).1 = s := by
      unfold ShS.set
      rw [set_ot ht he]
    rw [this]
    exact hl
  · refine .inr ⟨_, if_neg he, ?_⟩
    by_cases hv : 0 ≤ hold s.held (s.val k i).1
    · have ej : shar s.held i (s.val k i).1 = ⟨1, i.to, hold s.held (s.val k i).1, 0, 0⟩ := by unfold shar; rw [if_pos hv]
      rw [ej, hold_old hv]
      obtain ⟨g1, g2⟩ := hold_get hv
      have hlt := hold_lt hv
      have e1 : (t.val n ⟨1, i.to, hold s.held (s.val k i).1, 0, 0⟩) = ((s.val k i).1, n) := by
        have hx : ∀ x, t.val n ⟨1, i.to, x, 0, 0⟩ = (ot t.held x.toNat, n) := fun x => by unfold ShS.val; rw [if_pos rfl]
        rw [hx, hl.held, g2]
      have e2 : t.aft n ⟨1, i.to, hold s.held (s.val k i).1, 0, 0⟩ = t := by unfold ShS.aft; rw [if_pos (.inl rfl)]
      rw [e1, e2]
      refine ⟨⟨?_, hl.next, hl.keys⟩, ?_, ?_⟩
      · unfold ShS.set; simp [hl.held]
      · rw [hl.held]
        dsimp only
        rw [if_neg he]
        unfold shar
        rw [if_pos hv]
      · rw [may_iff]
        have hlen := hs.len
        obtain ⟨c1, c2, c3, c4, c5⟩ := hi
        refine ⟨.inl ⟨Int.le_refl _, by dsimp only; omega, rfl⟩, c2, ⟨hv, ?_⟩, ⟨Int.le_refl _, Int.lt_of_le_of_lt c2.1 c2.2⟩, .inl rfl⟩
        rw [hlen] at hlt
        have h0 := c2.1
        have h1 := c2.2
        clear c1 c5
        dsimp only
        omega
    · have hne : i.op ≠ 1 := by
        intro h1
        refine hv ?_
        unfold ShS.val
        rw [if_pos h1]
        exact hold_mem ha
      have ej : shar s.held i (s.val k i).1 = ⟨i.op, i.to, hold s.held (ot s.held i.a.toNat), if twoB i.op = true then hold s.held (ot s.held i.b.toNat) else 0, i.c⟩ := by unfold shar; rw [if_neg hv]
      rw [ej]
      obtain ⟨g1, g2⟩ := hold_get (hold_mem ha)
      obtain ⟨g3, g4⟩ := hold_get (hold_mem hb)
      have l1 := hold_lt (hold_mem ha)
      have l2 := hold_lt (hold_mem hb)
      have m1 := hold_mem ha
      have m2 := hold_mem hb
      generalize hj : (⟨i.op, i.to, hold s.held (ot s.held i.a.toNat), if twoB i.op = true then hold s.held (ot s.held i.b.toNat) else 0, i.c⟩ : Ins) = j
      have j1 : j.op = i.op := by rw [← hj]
      have j2 : j.to = i.to := by rw [← hj]
      have j3 : j.a = hold s.held (ot s.held i.a.toNat) := by rw [← hj]
      have j4 : j.b = if twoB i.op = true then hold s.held (ot s.held i.b.toNat) else 0 := by rw [← hj]
      have j5 : j.c = i.c := by rw [← hj]
      have hk : keyI s.held j = keyI s.held i := keyI_same j1 j5 (by rw [j3, g2]) (fun h2 => by rw [j4, if_pos h2, g4])
      have hkt : keyI t.held j = keyI s.held i := by rw [hl.held, hk]
      have hlk := look_like hl.keys (keyI s.held i)
      have e1 : (t.val n j).1 = (s.val k i).1 := by
        unfold ShS.val
        rw [if_neg (by rw [j1]; exact hne), if_neg hne, hkt]
        cases h1 : look s.keys (keyI s.held i) with
        | some e =>
          rw [h1] at hlk
          cases h2 : look t.keys (keyI s.held i) with
          | some f => rw [h2] at hlk; simpa using hlk
          | none => rw [h2] at hlk; simp at hlk
        | none =>
          rw [h1] at hlk
          cases h2 : look t.keys (keyI s.held i) with
          | some f => rw [h2] at hlk; simp at hlk
          | none => simpa using hl.next
      have e2 : ShLike (s.aft k i) (t.aft n j) := by
        unfold ShS.aft
        rw [hkt, j1]
        cases h1 : look s.keys (keyI s.held i) with
        | some e =>
          rw [h1] at hlk
          cases h2 : look t.keys (keyI s.held i) with
          | some f => simpa using hl
          | none => rw [h2] at hlk; simp at hlk
        | none =>
          rw [h1] at hlk
          cases h2 : look t.keys (keyI s.held i) with
          | some f => rw [h2] at hlk; simp at hlk
          | none =>
            rw [if_neg (by simp [hne]), if_neg (by simp [hne])]
            exact ⟨hl.held, by simp [hl.next], by simp [hl.keys, hl.next]⟩
      refine ⟨⟨?_, e2.next, e2.keys⟩, ?_, ?_⟩
      · unfold ShS.set
        simp [e2.held, e1, j2]
      · rw [e1, hl.held, j2, if_neg he]
        have : shar s.held j (s.val k i).1 = j := by
          unfold shar
          rw [if_neg hv, j1, j2, j5, j3, g2, ← j3]
          have : (if twoB i.op = true then hold s.held (ot s.held j.b.toNat) else 0) = j.b := by
            rw [j4]
            split
            · rw [g4]
            · rfl
          rw [this, ← j1, ← j2, ← j5]
        rw [this]
      · rw [may_iff]
        have hlen := hs.len
        rw [j1, j2, j3, j5, j4]
        obtain ⟨c1, c2, c3, c4, c5⟩ := hi
        have q : ∀ x : Int, x < (s.held.length : Int) → x < p.regs := fun x h => by
          rw [hlen] at h
          have h0 := c2.1
          have h1 := c2.2
          clear c1 c5 hlk
          omega
        by_cases h2 : twoB i.op = true
        · rw [if_pos h2]
          have e3 : i.op = 3 ∨ i.op = 4 := by simpa [twoB] using h2
          exact ⟨c1, c2, ⟨m1, q _ l1⟩, ⟨m2, q _ l2⟩, .inr e3⟩
        · rw [if_neg h2]
          exact ⟨c1, c2, ⟨m1, q _ l1⟩, ⟨Int.le_refl _, Int.lt_of_le_of_lt c2.1 c2.2⟩, .inl rfl⟩
theorem codS_pre (p : Pg) (k : Nat) : ∀ d, ∃ r, codS p (k + d) = codS p k ++ r
  | 0 => ⟨[], by simp⟩
  | d + 1 => by
    obtain ⟨r, hr⟩ := codS_pre p k d
    exact ⟨r ++ (runS p (k + d)).put ((k + d : Nat) : Int) (cd p.code (k + d)), by show codS p (k + d) ++ (runS p (k + d)).put ((k + d : Nat) : Int) (cd p.code (k + d)) = _; rw [hr, List.append_assoc]⟩
theorem put_length (s : ShS) (n : Int) (i : Ins) : (s.put n i).length ≤ 1 := by unfold ShS.put; split <;> simp
theorem codS_length (p : Pg) : ∀ k, (codS p k).length ≤ k
  | 0 => Nat.le_refl _
  | k + 1 => by
    have h1 := codS_length p k
    have h2 := put_length (runS p k) k (cd p.code k)
    show (codS p k ++ _).length ≤ _
    rw [List.length_append]
    omega
theorem sh_walk {p q : Pg} (hr : rightB p = true) (hi : q.ins = p.ins) (hg : q.regs = p.regs) (hc : q.code = codS p p.code.length) :
    ∀ k, k ≤ p.code.length → ShLike (runS p k) (runS q (codS p k).length) ∧ codS q (codS p k).length = codS p k ∧ ∀ j ∈ codS p k, mayB j p.regs = true
  | 0, _ => by
    refine ⟨?_, rfl, fun j hj => by simp [codS] at hj⟩
    show ShLike (begS p) (begS q)
    unfold begS
    rw [hi, hg]
    exact ⟨rfl, rfl, rfl⟩
  | k + 1, hk => by
    obtain ⟨h1, h2, h3⟩ := sh_walk hr hi hg hc k (by omega)
    have hm := (right_parts hr).2.2.2.2.2.2.2 k (by omega)
    have hs := runS_ok hr k (by omega)
    have ec : codS p (k + 1) = codS p k ++ (runS p k).put k (cd p.code k) := rfl
    have er : runS p (k + 1) = (runS p k).go k (cd p.code k) := rfl
    rcases like_step hs h1 hm ((codS p k).length : Int) with ⟨e, hl⟩ | ⟨j, e, hl, hp, hj⟩
    · rw [ec, er, e, List.append_nil]
      exact ⟨hl, h2, h3⟩
    · have hq : cd q.code (codS p k).length = j := by
        obtain ⟨r, hr⟩ := codS_pre p (k + 1) (p.code.length - (k + 1))
        rw [show k + 1 + (p.code.length - (k + 1)) = p.code.length by omega, ec, e] at hr
        rw [hc, hr]
        unfold cd
        simp
      rw [ec, er, e, List.length_append, List.length_singleton]
      refine ⟨?_, ?_, ?_⟩
      · show ShLike _ ((runS q (codS p k).length).go _ (cd q.code (codS p k).length))
        rw [hq]; exact hl
      · show codS q (codS p k).length ++ (runS q (codS p k).length).put _ (cd q.code (codS p k).length) = _
        rw [hq, h2, hp]
      · intro x hx
        rcases List.mem_append.1 hx with hx | hx
        · exact h3 x hx
        · simp only [List.mem_singleton] at hx
          rw [hx]; exact hj
theorem outs_map (l : List Int) (f : Int → Int) (k : Nat) (hk : k < l.length) : ot (l.map f) k = f (ot l k) := by
  rw [ot_lt (by simpa using hk), ot_lt hk]; simp
theorem sh_right {p : Pg} (hr : rightB p = true) : rightB (shP p) = true := by
  obtain ⟨p1, p2, p3, p4, p5, p6, p7, p8⟩ := right_parts hr
  obtain ⟨h1, h2, h3⟩ := sh_walk (q := shP p) hr rfl rfl rfl p.code.length (Nat.le_refl _)
  have hs := runS_ok hr p.code.length (Nat.le_refl _)
  have hl := codS_length p p.code.length
  refine (right_yes ?_ ?_).1
  · unfold headB numB
    simp only [Bool.and_eq_true, decide_eq_true_eq]
    refine ⟨⟨⟨⟨⟨⟨p1, p2⟩, p3⟩, ?_⟩, ?_⟩, ?_⟩, all_of fun j hj => ?_⟩
    · show (codS p p.code.length).length ≤ 16384
      omega
    · simpa [shP] using p5
    · simpa [shP] using p6
    · have hj' : j < p.outs.length := by simpa [shP] using hj
      show regB p.regs (ot (p.outs.map _) j) = true
      rw [outs_map _ _ _ hj']
      have := p7 j hj'
      have hm : (ot p.outs j).toNat < (runS p p.code.length).held.length := by rw [hs.len]; omega
      have g1 := hold_mem hm
      have g2 := hold_lt g1
      rw [hs.len] at g2
      unfold regB
      simp only [Bool.and_eq_true, decide_eq_true_eq]
      omega
  · intro k hk
    have hk' : k < (codS p p.code.length).length := hk
    show mayB (cd (codS p p.code.length) k) p.regs = true
    rw [cd_lt hk']
    exact h3 _ (List.getElem_mem hk')
theorem sh_again {p : Pg} (hr : rightB p = true) : shP (shP p) = shP p := by
  obtain ⟨p1, p2, p3, p4, p5, p6, p7, p8⟩ := right_parts hr
  obtain ⟨h1, h2, h3⟩ := sh_walk (q := shP p) hr rfl rfl rfl p.code.length (Nat.le_refl _)
  have hs := runS_ok hr p.code.length (Nat.le_refl _)
  have e : (shP p).code.length = (codS p p.code.length).length := rfl
  show Pg.mk p.ins p.regs (codS (shP p) (shP p).code.length) ((shP p).outs.map fun r => hold (runS (shP p) (shP p).code.length).held (ot (runS (shP p) (shP p).code.length).held r.toNat)) = shP p
  rw [e, h2, h1.held]
  unfold shP
  congr 1
  rw [List.map_map]
  refine List.map_congr_left fun r hx => ?_
  obtain ⟨j, hj, rfl⟩ := List.getElem_of_mem hx
  have := p7 j hj
  rw [ot_lt hj] at this
  have hm : (p.outs[j]).toNat < (runS p p.code.length).held.length := by rw [hs.len]; omega
  show hold _ (ot _ (hold _ (ot _ (p.outs[j]).toNat)).toNat) = _
  rw [(hold_get (hold_mem hm)).2]
end Go.Proofs.Ytclopelniopjkaa
