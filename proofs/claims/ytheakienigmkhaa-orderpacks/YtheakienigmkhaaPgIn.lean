/- Programs of the small machine: what may be one, in plain words; lists of instructions and of registers in memory; whether an instruction may be (the program's and the document's). -/
import Derived.Test.YtheakienigmkhaaBox
import Derived.Test.YtheakienigmkhaaPBase
namespace Go.Proofs.Ytheakienigmkhaa
open Go.RowKit

/-- an instruction -/
structure Ins where
  op : Int
  to : Int
  a : Int
  b : Int
  c : Int
/-- a program -/
structure Pg where
  ins : Int
  regs : Int
  code : List Ins
  outs : List Int
def zI : Ins := ⟨0, 0, 0, 0, 0⟩
def Ins.vals (i : Ins) : Array Value := #[.int .i64 i.op, .int .i64 i.to, .int .i64 i.a, .int .i64 i.b, .int .i64 i.c]
def cd (l : List Ins) (k : Nat) : Ins := l.getD k zI
def ot (l : List Int) (k : Nat) : Int := l.getD k 0

def regB (regs r : Int) : Bool := decide (0 ≤ r) && decide (r < regs)
def twoB (op : Int) : Bool := decide (op = 3) || decide (op = 4)
def constB (op c : Int) : Bool :=
  if op = 1 ∨ op = 2 ∨ op = 3 ∨ op = 4 then decide (c = 0)
  else if op = 5 ∨ op = 6 then decide (-512 ≤ c) && decide (c ≤ 512) && decide (c ≠ 0)
  else if op = 7 ∨ op = 8 then decide (1 ≤ c) && decide (c ≤ 64)
  else false
def mayB (i : Ins) (regs : Int) : Bool := constB i.op i.c && (regB regs i.to && regB regs i.a && regB regs i.b) && (decide (i.b = 0) || twoB i.op)
def numB (p : Pg) : Bool := decide (1 ≤ p.ins) && decide (p.ins ≤ p.regs) && decide (p.regs ≤ 128) && decide (p.code.length ≤ 16384) && decide (1 ≤ p.outs.length) && decide (p.outs.length ≤ 128)
def headB (p : Pg) : Bool := numB p && p.outs.all (regB p.regs)
/-- the first instruction that may not be -/
def badAt (p : Pg) : Nat := p.code.findIdx (fun i => !mayB i p.regs)
def rightB (p : Pg) : Bool := headB p && decide (badAt p = p.code.length)
def chkK (p : Pg) : Int := if headB p then (if badAt p < p.code.length then badAt p else 0) else -1

/-- a list of numbers -/
def IntsAt (w : World) (v : Value) (l : List Int) : Prop :=
  ∃ a cap, v = .slice a l.length cap ∧ l.length ≤ cap ∧ cap ≤ maxLen ∧ (l ≠ [] → ∃ b off, a = some ⟨b, off, none⟩ ∧ ∀ i, i < l.length → w.cell? ⟨b, off + i, none⟩ = some (.int .i64 (ot l i)))
/-- five cells of a list hold an instruction -/
structure InsC (w : World) (b o : Nat) (i : Ins) : Prop where
  cell0 : w.cell? ⟨b, o, none⟩ = some (.int .i64 i.op)
  cell1 : w.cell? ⟨b, o + 1, none⟩ = some (.int .i64 i.to)
  cell2 : w.cell? ⟨b, o + 2, none⟩ = some (.int .i64 i.a)
  cell3 : w.cell? ⟨b, o + 3, none⟩ = some (.int .i64 i.b)
  cell4 : w.cell? ⟨b, o + 4, none⟩ = some (.int .i64 i.c)
theorem InsC.step {w w' : World} {b o : Nat} {i : Ins} (h : InsC w b o i) (hb : Below w.heap.size w w') : InsC w' b o i :=
  ⟨(hb.cell (World.block_lt_of_cell? w _ h.cell0)).trans h.cell0, (hb.cell (World.block_lt_of_cell? w _ h.cell1)).trans h.cell1, (hb.cell (World.block_lt_of_cell? w _ h.cell2)).trans h.cell2, (hb.cell (World.block_lt_of_cell? w _ h.cell3)).trans h.cell3, (hb.cell (World.block_lt_of_cell? w _ h.cell4)).trans h.cell4⟩
theorem InsC.drew {w : World} {b o : Nat} {i : Ins} (h : InsC w b o i) : InsC w.drew b o i := ⟨h.cell0, h.cell1, h.cell2, h.cell3, h.cell4⟩
/-- a list of instructions -/
def CodeAt (w : World) (v : Value) (l : List Ins) : Prop :=
  ∃ a cap, v = .slice a l.length cap ∧ l.length ≤ cap ∧ cap ≤ maxLen ∧ (l ≠ [] → ∃ b off, a = some ⟨b, off, none⟩ ∧ ∀ i, i < l.length → InsC w b (off + i * 5) (cd l i))
theorem IntsAt.below {w w' : World} {v : Value} {l : List Int} (h : IntsAt w v l) (hb : Below w.heap.size w w') : IntsAt w' v l := by
  obtain ⟨a, cap, h1, h2, h3, h4⟩ := h
  refine ⟨a, cap, h1, h2, h3, fun hne => ?_⟩
  obtain ⟨b, off, e, hc⟩ := h4 hne
  exact ⟨b, off, e, fun i hi => (hb.cell (World.block_lt_of_cell? w _ (hc i hi))).trans (hc i hi)⟩
theorem CodeAt.below {w w' : World} {v : Value} {l : List Ins} (h : CodeAt w v l) (hb : Below w.heap.size w w') : CodeAt w' v l := by
  obtain ⟨a, cap, h1, h2, h3, h4⟩ := h
  refine ⟨a, cap, h1, h2, h3, fun hne => ?_⟩
  obtain ⟨b, off, e, hc⟩ := h4 hne
  exact ⟨b, off, e, fun i hi => (hc i hi).step hb⟩
theorem IntsAt.at {w : World} {a : Option Addr} {n cap : Nat} {l : List Int} (h : IntsAt w (.slice a n cap) l) {i : Nat} (hi : i < l.length) :
    ∃ b off, a = some ⟨b, off, none⟩ ∧ w.cell? ⟨b, off + i, none⟩ = some (.int .i64 (ot l i)) := by
  obtain ⟨a', c', he, _, _, h3⟩ := h
  simp only [Value.slice.injEq] at he
  obtain ⟨rfl, _, rfl⟩ := he
  obtain ⟨b, off, rfl, h⟩ := h3 (by intro e; rw [e] at hi; simp at hi)
  exact ⟨b, off, rfl, h i hi⟩
theorem CodeAt.at {w : World} {a : Option Addr} {n cap : Nat} {l : List Ins} (h : CodeAt w (.slice a n cap) l) {i : Nat} (hi : i < l.length) :
    ∃ b off, a = some ⟨b, off, none⟩ ∧ InsC w b (off + i * 5) (cd l i) := by
  obtain ⟨a', c', he, _, _, h3⟩ := h
  simp only [Value.slice.injEq] at he
  obtain ⟨rfl, _, rfl⟩ := he
  obtain ⟨b, off, rfl, h⟩ := h3 (by intro e; rw [e] at hi; simp at hi)
  exact ⟨b, off, rfl, h i hi⟩
/-- a program's value -/
def PgAt (w : World) (v : Value) (p : Pg) : Prop :=
  ∃ ca cc oa oc, v = .agg #[.int .i64 p.ins, .int .i64 p.regs, .slice ca p.code.length cc, .slice oa p.outs.length oc] ∧ CodeAt w (.slice ca p.code.length cc) p.code ∧ IntsAt w (.slice oa p.outs.length oc) p.outs
theorem PgAt.below {w w' : World} {v : Value} {p : Pg} (h : PgAt w v p) (hb : Below w.heap.size w w') : PgAt w' v p := by
  obtain ⟨ca, cc, oa, oc, rfl, h1, h2⟩ := h
  exact ⟨ca, cc, oa, oc, rfl, h1.below hb, h2.below hb⟩

/-- a block of four cells, of five -/
def Box4 (W : World) (B : Nat) (t : TypeId) (x y z u : Value) : Prop := W.heap[B]? = some (.cells #[x, y, z, u] t (0, 0))
theorem Box4.cell0 {W : World} {B : Nat} {t : TypeId} {x y z u : Value} (h : Box4 W B t x y z u) : W.cell? ⟨B, 0, none⟩ = some x := by simp [World.cell?, show W.heap[B]? = _ from h]
theorem Box4.cell1 {W : World} {B : Nat} {t : TypeId} {x y z u : Value} (h : Box4 W B t x y z u) : W.cell? ⟨B, 1, none⟩ = some y := by simp [World.cell?, show W.heap[B]? = _ from h]
theorem Box4.cell2 {W : World} {B : Nat} {t : TypeId} {x y z u : Value} (h : Box4 W B t x y z u) : W.cell? ⟨B, 2, none⟩ = some z := by simp [World.cell?, show W.heap[B]? = _ from h]
theorem Box4.cell3 {W : World} {B : Nat} {t : TypeId} {x y z u : Value} (h : Box4 W B t x y z u) : W.cell? ⟨B, 3, none⟩ = some u := by simp [World.cell?, show W.heap[B]? = _ from h]
theorem Box4.lt {W : World} {B : Nat} {t : TypeId} {x y z u : Value} (h : Box4 W B t x y z u) : B < W.heap.size := (Array.getElem?_eq_some_iff.1 h).1
theorem Box4.step {W W' : World} {B : Nat} {t : TypeId} {x y z u : Value} (h : Box4 W B t x y z u) (hb : Below W.heap.size W W') : Box4 W' B t x y z u := (hb.block B h.lt).trans h
theorem Box4.drew {W : World} {B : Nat} {t : TypeId} {x y z u : Value} (h : Box4 W B t x y z u) : Box4 W.drew B t x y z u := h
theorem Box4.new (W : World) (t : TypeId) (x y z u : Value) : Box4 (W.alloc (.cells #[x, y, z, u] t)) W.heap.size t x y z u := heap_alloc_new _ _
def Box5 (W : World) (B : Nat) (t : TypeId) (i : Ins) : Prop := W.heap[B]? = some (.cells i.vals t (0, 0))
theorem Box5.drew {W : World} {B : Nat} {t : TypeId} {i : Ins} (h : Box5 W B t i) : Box5 W.drew B t i := h
theorem Box5.new (W : World) (t : TypeId) (i : Ins) : Box5 (W.alloc (.cells i.vals t)) W.heap.size t i := heap_alloc_new _ _
theorem Box5.lt {W : World} {B : Nat} {t : TypeId} {i : Ins} (h : Box5 W B t i) : B < W.heap.size := (Array.getElem?_eq_some_iff.1 h).1
theorem Box5.step {W W' : World} {B : Nat} {t : TypeId} {i : Ins} (h : Box5 W B t i) (hb : Below W.heap.size W W') : Box5 W' B t i := (hb.block B h.lt).trans h
theorem Box5.cells {W : World} {B : Nat} {t : TypeId} {i : Ins} (h : Box5 W B t i) : InsC W B 0 i := by
  refine ⟨?_, ?_, ?_, ?_, ?_⟩ <;> simp [World.cell?, show W.heap[B]? = _ from h, Ins.vals]

set_option maxRecDepth 100000 in
theorem constant_any (op c : Int) (w : World) :
    Calls Try.prog 59 #[.int .i64 op, .int .i64 c] w fun e w' => w' = w ∧ e = .returned (.bool (constB op c)) := by
  by_cases h1 : op = 1
  · subst h1
    rw [show constB 1 c = decide (c = 0) from rfl]
    by_cases hc : c = 0
    · subst hc
      go_enter Try.func59, Try.ntmps59
      go_wp2
      go_ret
      simp
    · go_enter Try.func59, Try.ntmps59
      go_wp2
      go_ret
      simp [hc]
  by_cases h2 : op = 2
  · subst h2
    rw [show constB 2 c = decide (c = 0) from rfl]
    by_cases hc : c = 0
    · subst hc
      go_enter Try.func59, Try.ntmps59
      go_wp2
      go_ret
      simp
    · go_enter Try.func59, Try.ntmps59
      go_wp2
      go_ret
      simp [hc]
  by_cases h3 : op = 3
  · subst h3
    rw [show constB 3 c = decide (c = 0) from rfl]
    by_cases hc : c = 0
    · subst hc
      go_enter Try.func59, Try.ntmps59
      go_wp2
      go_ret
      simp
    · go_enter Try.func59, Try.ntmps59
      go_wp2
      go_ret
      simp [hc]
  by_cases h4 : op = 4
  · subst h4
    rw [show constB 4 c = decide (c = 0) from rfl]
    by_cases hc : c = 0
    · subst hc
      go_enter Try.func59, Try.ntmps59
      go_wp2
      go_ret
      simp
    · go_enter Try.func59, Try.ntmps59
      go_wp2
      go_ret
      simp [hc]
  by_cases h5 : op = 5
  · subst h5
    rw [show constB 5 c = (decide (-512 ≤ c) && decide (c ≤ 512) && decide (c ≠ 0)) from rfl]
    by_cases k1 : -512 ≤ c
    · by_cases k2 : c ≤ 512
      · by_cases hc : c = 0
        · subst hc
          go_enter Try.func59, Try.ntmps59
          go_wp2
          go_ret
          simp
        · go_enter Try.func59, Try.ntmps59
          go_wp2
          go_ret
          simp [k1, k2, hc]
      · go_enter Try.func59, Try.ntmps59
        go_wp2
        go_ret
        simp; omega
    · go_enter Try.func59, Try.ntmps59
      go_wp2
      go_ret
      simp; omega
  by_cases h6 : op = 6
  · subst h6
    rw [show constB 6 c = (decide (-512 ≤ c) && decide (c ≤ 512) && decide (c ≠ 0)) from rfl]
    by_cases k1 : -512 ≤ c
    · by_cases k2 : c ≤ 512
      · by_cases hc : c = 0
        · subst hc
          go_enter Try.func59, Try.ntmps59
          go_wp2
          go_ret
          simp
        · go_enter Try.func59, Try.ntmps59
          go_wp2
          go_ret
          simp [k1, k2, hc]
      · go_enter Try.func59, Try.ntmps59
        go_wp2
        go_ret
        simp; omega
    · go_enter Try.func59, Try.ntmps59
      go_wp2
      go_ret
      simp; omega
  by_cases h7 : op = 7
  · subst h7
    rw [show constB 7 c = (decide (1 ≤ c) && decide (c ≤ 64)) from rfl]
    by_cases k1 : 1 ≤ c
    · by_cases k2 : c ≤ 64
      · go_enter Try.func59, Try.ntmps59
        go_wp2
        go_ret
        simp [k1, k2]
      · go_enter Try.func59, Try.ntmps59
        go_wp2
        go_ret
        simp; omega
    · go_enter Try.func59, Try.ntmps59
      go_wp2
      go_ret
      simp; omega
  by_cases h8 : op = 8
  · subst h8
    rw [show constB 8 c = (decide (1 ≤ c) && decide (c ≤ 64)) from rfl]
    by_cases k1 : 1 ≤ c
    · by_cases k2 : c ≤ 64
      · go_enter Try.func59, Try.ntmps59
        go_wp2
        go_ret
        simp [k1, k2]
      · go_enter Try.func59, Try.ntmps59
        go_wp2
        go_ret
        simp; omega
    · go_enter Try.func59, Try.ntmps59
      go_wp2
      go_ret
      simp; omega
  have e : constB op c = false := by unfold constB; simp [h1, h2, h3, h4, h5, h6, h7, h8]
  rw [e]
  go_enter Try.func59, Try.ntmps59
  go_wp2
  go_ret
  simp

set_option maxRecDepth 100000 in
theorem two_any (op : Int) (w : World) :
    Calls Try.prog 60 #[.int .i64 op] w fun e w' => w' = w ∧ e = .returned (.bool (twoB op)) := by
  unfold twoB
  by_cases h3 : op = 3
  · subst h3
    go_enter Try.func60, Try.ntmps60
    go_wp2
    go_ret
    simp
  · by_cases h4 : op = 4
    · subst h4
      go_enter Try.func60, Try.ntmps60
      go_wp2
      go_ret
      simp
    · go_enter Try.func60, Try.ntmps60
      go_wp2
      go_ret
      simp [h3, h4]

theorem ot_lt {l : List Int} {i : Nat} (h : i < l.length) : ot l i = l[i] := by unfold ot; simp [h]
theorem cd_lt {l : List Ins} {i : Nat} (h : i < l.length) : cd l i = l[i] := by unfold cd; simp [h]
theorem all_of {l : List Int} {f : Int → Bool} (h : ∀ j, j < l.length → f (ot l j) = true) : l.all f = true := by
  rw [List.all_eq_true]
  intro x hx
  obtain ⟨j, hj, rfl⟩ := List.mem_iff_getElem.1 hx
  rw [← ot_lt hj]; exact h j hj
theorem all_not {l : List Int} {f : Int → Bool} {j : Nat} (hj : j < l.length) (h : f (ot l j) = false) : l.all f = false := by
  cases e : l.all f with
  | false => rfl
  | true =>
    rw [List.all_eq_true] at e
    have := e _ (List.getElem_mem hj)
    rw [← ot_lt hj, h] at this; cases this

set_option maxRecDepth 100000 in
theorem registers_any (regs : Int) (v : Value) (l : List Int) (w : World) (h : IntsAt w v l) :
    Calls Try.prog 46 #[.int .i64 regs, v] w fun e w' => w' = w ∧ e = .returned (.bool (l.all (regB regs))) := by
  have HI := hide h
  obtain ⟨a, cap, rfl, hcap, hm, _⟩ := h
  unfold maxLen at hm
  go_enter Try.func46, Try.ntmps46
  go_wp2
  go_loopw [9, 6] (fun iv _ wr => ∃ i : Nat, i ≤ l.length ∧ iv = .int .i64 i ∧ wr = w ∧ ∀ j, j < i → regB regs (ot l j) = true) (fun iv _ _ => l.length - (intOf iv).toNat)
  case atStart => exact ⟨0, Nat.zero_le _, rfl, rfl, fun j h => absurd h (Nat.not_lt_zero _)⟩
  case round =>
    obtain ⟨i, hi, rfl, hwr, hf⟩ := hrel
    obtain rfl : w = wr := hwr.symm
    clear hwr
    have HF := hide hf
    clear hf
    by_cases hlt : i < l.length
    · obtain ⟨b, off, rfl, k1⟩ := HI.out.at hlt
      obtain ⟨r, hr⟩ : ∃ r, r = ot l i := ⟨_, rfl⟩
      rw [← hr] at k1
      have HR := hide hr
      clear hr
      by_cases h1 : r < 0
      · go_wp2
        go_ret
        refine ⟨rfl, ?_⟩
        rw [all_not hlt (by rw [← HR.out]; unfold regB; simp; omega)]
        rfl
      · by_cases h2 : r < regs
        · have h2' : ¬ regs ≤ r := by omega
          go_wp2
          go_roundw
          case rel => exact ⟨i + 1, by omega, by go_num, by first | trivial | rfl, fun j hj => by
            rcases Nat.lt_or_ge j i with h | h
            · exact HF.out j h
            · have e : j = i := by omega
              subst e
              rw [← HR.out]; unfold regB; simp; omega⟩
          case measure => simp [intOf]; omega
        · have h2' : regs ≤ r := by omega
          go_wp2
          go_ret
          refine ⟨rfl, ?_⟩
          rw [all_not hlt (by rw [← HR.out]; unfold regB; simp; omega)]
          rfl
    · have e : i = l.length := by omega
      subst e
      go_wp2
      go_ret
      exact ⟨rfl, by rw [all_of HF.out]; rfl⟩
end Go.Proofs.Ytheakienigmkhaa
