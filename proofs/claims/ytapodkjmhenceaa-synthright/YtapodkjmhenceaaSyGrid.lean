/- synth.Grid, swageref12.Grid: the points' powers. -/
import Derived.Test.YtapodkjmhenceaaWRow
import Derived.Laws.AppendOwn
import Derived.Test.YtapodkjmhenceaaR2Norm
import Derived.Test.YtapodkjmhenceaaSyRt
import Derived.Test.YtapodkjmhenceaaPtRPow
import Derived.Test.YtapodkjmhenceaaSyDm
namespace Go.Proofs.Ytapodkjmhenceaa
open Go.RowKit

/-- a list of one's own of which no cell holds a limb -/
def Own1S (w : World) (base : Nat) (e : TypeId) (v : Value) (n : Nat) (xs : List Value) : Prop :=
  w.ownsRow base e 1 v n xs ∧ ∀ g cur t fr, v.ownBlock = some g → w.heap[g]? = some (.cells cur t fr) → ∀ c ∈ cur.toList, ∃ m l k, c = Value.slice m l k
theorem Own1S.nil (w : World) (base : Nat) (e : TypeId) : Own1S w base e (.slice none 0 0) 0 [] := ⟨World.ownsRow_nil _ _ _ _, fun g cur t fr h => by cases h⟩
theorem Own1S.below {w w' : World} {base : Nat} {e : TypeId} {v : Value} {n : Nat} {xs : List Value} (h : Own1S w base e v n xs) (hb : Below w.heap.size w w') : Own1S w' base e v n xs := by
  obtain ⟨⟨hl, h1⟩, h2⟩ := h
  refine ⟨⟨hl, ?_⟩, fun g cur t fr hg hh => h2 g cur t fr hg ?_⟩
  · rcases h1 with h0 | ⟨g, cap, cur, rfl, hg, hh, r⟩
    · exact .inl h0
    · exact .inr ⟨g, cap, cur, rfl, hg, by rw [hb.block g (Array.getElem?_eq_some_iff.1 hh).1]; exact hh, r⟩
  · rcases h1 with ⟨rfl, _⟩ | ⟨g', cap, cur', rfl, _, hh', r⟩
    · cases hg
    · have e : g' = g := by simpa [Value.ownBlock] using hg
      subst e
      rw [← hb.block g' (Array.getElem?_eq_some_iff.1 hh').1]; exact hh
/-- what is written into such a list leaves all limbs -/
theorem Own1S.spares {w w' : World} {base : Nat} {e : TypeId} {v : Value} {n : Nat} {xs : List Value} (h : Own1S w base e v n xs) (hg : w.grownBy w' v.ownBlock) : Spares w w' := by
  intro u ys hn
  obtain ⟨ho, a, cap, rfl, h1, h2, h3⟩ := hn
  refine ⟨ho, a, cap, rfl, h1, h2, fun hx => ?_⟩
  obtain ⟨b, off, rfl, hcell⟩ := h3 hx
  refine ⟨b, off, rfl, fun i hi => hg.cell (hcell i hi) fun e => ?_⟩
  have hc := hcell i hi
  cases hb : w.heap[b]? with
  | none => simp [World.cell?, hb] at hc
  | some ob =>
    cases ob with
    | cells cur t fr =>
      have hc' : cur[off + i]? = some (.int .u32 (lm ys i)) := by simpa [World.cell?, hb, lm] using hc
      have hm : (Value.int .u32 (lm ys i)) ∈ cur.toList := by
        rw [← Array.getElem?_toList] at hc'
        exact List.mem_of_getElem? hc'
      obtain ⟨_, _, _, h9⟩ := h.2 b cur t fr e.symm hb _ hm
      cases h9
    | _ => simp [World.cell?, hb] at hc
theorem mem_zeroCells1 {n : Nat} {c : Value} (h : c ∈ (Builtin.zeroCells #[.slice none 0 0] n).toList) : c = .slice none 0 0 := by
  simp only [Builtin.zeroCells, Array.toList_map, List.mem_map] at h
  obtain ⟨i, _, rfl⟩ := h
  have : i % (#[Value.slice none 0 0] : Array Value).size < 1 := Nat.mod_lt _ (by decide)
  generalize i % (#[Value.slice none 0 0] : Array Value).size = j at *
  match j, this with
  | 0, _ => rfl
theorem wp_app1S {P : Program} (w : World) {o : Oper} {a : Act} {K : Act → World → Prop} {Q : Exit → Act → World → Prop} (s x : Operand) (t : TypeId)
    (ho : o.op = .call { callee := .builtin .append, args := #[s, x], argTypes := #[t, t] })
    (base : Nat) (e : TypeId) (i : TypeInfo) (ht : P.underlying t = some (.slice e)) (hi : P.info? e = some i) (hz : i.zero = some (.slice none 0 0)) (hsize : i.size = 1) (hby : i.bytes = 24)
    (v : Value) (n : Nat) (xs : List Value) (hs : a.eval s = v) (hown : Own1S w base e v n xs)
    (b c : Nat) (m0 : Option Addr) (l0 c0 : Nat) (hx : a.eval x = .slice (some ⟨b, 0, none⟩) 1 c) (hc0 : w.cell? ⟨b, 0, none⟩ = some (.slice m0 l0 c0))
    (hn : n ≤ 1000000000) (hbase : base ≤ w.heap.size)
    (h : ∀ v' w', Own1S w' base e v' (n + 1) (xs ++ [.slice m0 l0 c0]) → w.grownBy w' v.ownBlock → (v'.ownBlock = v.ownBlock ∨ v'.ownBlock = some w.heap.size) → K (a.put o.dst v') w') : o.wp P a w K Q := by
  have hl : ([.slice m0 l0 c0] : List Value).length = 1 * i.size := by rw [hsize]; rfl
  have hnews : ∀ j u, ([.slice m0 l0 c0] : List Value)[j]? = some u → w.cell? ((⟨b, 0, none⟩ : Addr).add j) = some u := by
    intro j u hj
    match j with
    | 0 => simp only [List.getElem?_cons_zero, Option.some.injEq] at hj; rw [← hj]; exact hc0
    | j + 1 => simp at hj
  have h1 : ∀ u ∈ ([.slice m0 l0 c0] : List Value), u.oneCell' = true := by
    intro u hu
    simp only [List.mem_cons, List.not_mem_nil, or_false] at hu
    subst hu; rfl
  have hnu : ∀ u ∈ ([.slice m0 l0 c0] : List Value), ∃ m l k, u = Value.slice m l k := by
    intro u hu
    simp only [List.mem_cons, List.not_mem_nil, or_false] at hu
    subst hu; exact ⟨_, _, _, rfl⟩
  have hzn : ∀ k, ∀ u ∈ (Builtin.zeroCells #[.slice none 0 0] k).toList, ∃ m l k, u = Value.slice m l k := by
    intro k u hu
    exact ⟨_, _, _, mem_zeroCells1 hu⟩
  have h63 : n + 1 ≤ maxLen := by unfold maxLen; omega
  obtain ⟨v', w', hr, h2, h3, h4⟩ := run_append_own (P := P) w base t o.type e i _ 1 24 ht hi hz hsize hby rfl (by decide) v n xs hown.1 ⟨b, 0, none⟩ 1 c [.slice m0 l0 c0] (by rw [hl, hsize]) hnews h1 h63 (by omega) hbase
  have hp : (∀ g cur tt fr, v'.ownBlock = some g → w'.heap[g]? = some (.cells cur tt fr) → ∀ u ∈ cur.toList, ∃ m l k, u = Value.slice m l k) ∧ (v'.ownBlock = v.ownBlock ∨ v'.ownBlock = some w.heap.size) := by
    rcases hown.1.2 with ⟨rfl, rfl⟩ | ⟨g0, cap, cur0, rfl, hbg, hg0, hnc, hcm, hcs, htake⟩
    · have hr' := run_append_nil (P := P) w t o.type e i _ ht hi hz ⟨b, 0, none⟩ 1 c [.slice m0 l0 c0] hl hnews (by decide) (by decide) (by rw [hby]; decide)
      rw [hr'] at hr
      simp only [Result.ok.injEq] at hr
      obtain ⟨rfl, rfl⟩ := hr
      refine ⟨?_, .inr rfl⟩
      intro g cur tt fr hg hh u hu
      have e : w.heap.size = g := by simpa [Value.ownBlock] using hg
      subst e
      rw [show (w.heap.size : Nat) = w.drew.heap.size from rfl, heap_alloc_new] at hh
      simp only [Option.some.injEq, Obj.cells.injEq] at hh
      obtain ⟨rfl, _⟩ := hh
      rw [Array.toList_append] at hu
      rcases List.mem_append.1 hu with hu | hu
      · exact hnu u (by simpa using hu)
      · exact hzn _ u hu
    · have hall := hown.2 g0 cur0 e (0, 0) rfl hg0
      by_cases hroom : n + 1 ≤ cap
      · have hfit : n * i.size + ([.slice m0 l0 c0] : List Value).length ≤ cur0.size := by rw [hsize, hcs]; show n * 1 + 1 ≤ cap * 1; omega
        have hr' := run_append_room (P := P) w t o.type e i ht hi g0 n cap cur0 hg0 ⟨b, 0, none⟩ 1 c [.slice m0 l0 c0] hl hnews h1 hroom hfit
        rw [hr'] at hr
        simp only [Result.ok.injEq] at hr
        obtain ⟨rfl, rfl⟩ := hr
        refine ⟨?_, .inl rfl⟩
        intro g cur tt fr hg hh u hu
        have e : g0 = g := by simpa [Value.ownBlock] using hg
        subst e
        rw [setRow_heap w g0 cur0 _ _ _ hg0] at hh
        simp only [Option.some.injEq, Obj.cells.injEq] at hh
        obtain ⟨rfl, _⟩ := hh
        simp only [List.mem_append] at hu
        rcases hu with (hu | hu) | hu
        · exact hall u (List.mem_of_mem_take hu)
        · exact hnu u hu
        · exact hall u (List.mem_of_mem_drop hu)
      · have holds : ∀ j u, xs[j]? = some u → w.cell? ((⟨g0, 0, none⟩ : Addr).add j) = some u := hown.1.cells (g := g0) rfl
        have hr' := run_append_grow (P := P) w t o.type e i _ ht hi hz ⟨g0, 0, none⟩ n cap xs (by rw [hsize]; exact hown.1.1) holds ⟨b, 0, none⟩ 1 c [.slice m0 l0 c0] hl hnews (by omega) (by omega) (growslice_fits (by omega) (by rw [hby]; omega))
        rw [hr'] at hr
        simp only [Result.ok.injEq] at hr
        obtain ⟨rfl, rfl⟩ := hr
        refine ⟨?_, .inr rfl⟩
        intro g cur tt fr hg hh u hu
        have e : w.heap.size = g := by simpa [Value.ownBlock] using hg
        subst e
        rw [show (w.heap.size : Nat) = w.drew.heap.size from rfl, heap_alloc_new] at hh
        simp only [Option.some.injEq, Obj.cells.injEq] at hh
        obtain ⟨rfl, _⟩ := hh
        simp only [Array.toList_append, List.mem_append] at hu
        rcases hu with (hu | hu) | hu
        · rw [← htake] at hu; exact hall u (List.mem_of_mem_take (by simpa using hu))
        · exact hnu u (by simpa using hu)
        · exact hzn _ u hu
  unfold Oper.wp execOp
  simp only [ho, resolve, invoke, builtin, Sem.run_bind, Sem.run_pure, Result.andThen_ok, List.map_toArray, List.map_cons, List.map_nil, hs, hx, hr]
  exact h v' w' ⟨h2, hp.1⟩ h3 hp.2
theorem wpList_app1S {P : Program} (w : World) {ops : Array Oper} {rest : List Oper} {o : Oper} {a : Act} {Q : Exit → Act → World → Prop} (hg : o.guard = none) (s x : Operand) (t : TypeId)
    (ho : o.op = .call { callee := .builtin .append, args := #[s, x], argTypes := #[t, t] })
    (base : Nat) (e : TypeId) (i : TypeInfo) (ht : P.underlying t = some (.slice e)) (hi : P.info? e = some i) (hz : i.zero = some (.slice none 0 0)) (hsize : i.size = 1) (hby : i.bytes = 24)
    (v : Value) (n : Nat) (xs : List Value) (hs : a.eval s = v) (hown : Own1S w base e v n xs)
    (b c : Nat) (m0 : Option Addr) (l0 c0 : Nat) (hx : a.eval x = .slice (some ⟨b, 0, none⟩) 1 c) (hc0 : w.cell? ⟨b, 0, none⟩ = some (.slice m0 l0 c0))
    (hn : n ≤ 1000000000) (hbase : base ≤ w.heap.size)
    (h : ∀ v' w', Own1S w' base e v' (n + 1) (xs ++ [.slice m0 l0 c0]) → w.grownBy w' v.ownBlock → (v'.ownBlock = v.ownBlock ∨ v'.ownBlock = some w.heap.size) → wpList P ops Q rest (a.put o.dst v') w') : wpList P ops Q (o :: rest) a w :=
  wpList_plain hg fun _ hK => wp_app1S w s x t ho base e i ht hi hz hsize hby v n xs hs hown b c m0 l0 c0 hx hc0 hn hbase fun v' w' h1 h2 h3 => hK _ _ (h v' w' h1 h2 h3)
end Go.Proofs.Ytapodkjmhenceaa

namespace Go.Proofs.Ytapodkjmhenceaa
open Go.RowKit

/-- the powers of the point i -/
def pwr (ps : List (Int × Int)) (i : Nat) : List Int := (List.range ps.length).map (powf (pA ps i) (pB ps i) ps.length)
theorem pwr_len (ps : List (Int × Int)) (i : Nat) : (pwr ps i).length = ps.length := by simp [pwr]
theorem IRow.aside {w : World} {b G o : Nat} {zs : List Int} {old : Value} (h : IRow w b zs) (hc : w.cell? ⟨G, o, none⟩ = some old) (ho : ∀ z, old ≠ .int .u32 z) (hne : b ≠ G) (u : Value) : IRow (w.setCell ⟨G, o, none⟩ u) b zs := by
  refine ⟨fun i hi => ?_, fun o => by rw [World.frozen?_setCell]; exact h.free o, by simpa using h.lt⟩
  obtain ⟨s, m, n, c, h1, h2, h3⟩ := h.cells i hi
  refine ⟨s, m, n, c, ?_, ?_, h3.keep (Spares.set hc ho u)⟩
  · rw [World.cell?_setCell_other]
    · exact h1
    · intro e; exact hne (by simp only [Addr.mk.injEq] at e; exact e.1.symm)
  · rw [World.cell?_setCell_other]
    · exact h2
    · intro e; exact hne (by simp only [Addr.mk.injEq] at e; exact e.1.symm)
/-- block b holds these values, and may be written into -/
structure VRow (w : World) (b n : Nat) (f : Nat → Value) : Prop where
  cells : ∀ i, i < n → w.cell? ⟨b, i, none⟩ = some (f i)
  free : ∀ o, w.frozen? ⟨b, o, none⟩ = false
  lt : b < w.heap.size
theorem VRow.step {w w' : World} {b n : Nat} {f : Nat → Value} (h : VRow w b n f) (hb : Below w.heap.size w w') : VRow w' b n f :=
  ⟨fun i hi => (hb.cell h.lt).trans (h.cells i hi), fun o => (hb.frozen h.lt).trans (h.free o), Nat.lt_of_lt_of_le h.lt hb.size⟩
theorem VRow.put {w : World} {b n k : Nat} {f : Nat → Value} (h : VRow w b n f) (hk : k < n) (u : Value) : VRow (w.setCell ⟨b, k, none⟩ u) b n (fun j => if j = k then u else f j) := by
  refine ⟨fun i hi => ?_, fun o => by rw [World.frozen?_setCell]; exact h.free o, by simpa using h.lt⟩
  by_cases e : i = k
  · subst e; rw [if_pos rfl]; exact cell_eq (h.cells i hi) _
  · rw [if_neg e]; exact cell_ne (h.cells i hi) (Ne.symm e) _
theorem Try.infoRowI : (Try.prog.info? 40).map (fun i => (i.zero, i.size, i.bytes)) = some (some (.slice none 0 0), 1, 24) := by kernel_rfl
theorem run_makeG (n : Nat) (hn : n ≤ 4000000000) (w : World) :
    (Instr.makeSlice 75 (.int .i64 n) (.int .i64 n)).run Try.prog w = .ok (.slice (some ⟨w.heap.size, 0, none⟩) n n) (w.alloc (.cells (madeCells #[.slice none 0 0] n) 40)) := by
  obtain ⟨i0, hi, hz0, hz1, hz2⟩ := info_parts Try.infoRowI
  have hr := run_make (P := Try.prog) w 75 40 i0 (.slice none 0 0) Try.underlying75 hi hz0 .i64 .i64 n n (by omega) (Int.le_refl _) (by rw [hz2]; omega) (by omega)
  rw [hr]
  simp only [Int.toNat_natCast, hz1, Nat.mul_one]
  rfl
theorem VRow.new (w : World) (n : Nat) (t : TypeId) : VRow (w.alloc (.cells (madeCells #[.slice none 0 0] n) t)) w.heap.size n (fun _ => .slice none 0 0) := by
  have hh : (w.alloc (.cells (madeCells #[.slice none 0 0] n) t)).heap[w.heap.size]? = some (.cells (madeCells #[.slice none 0 0] n) t (0, 0)) := heap_alloc_new _ _
  have hlt : w.heap.size < (w.alloc (.cells (madeCells #[.slice none 0 0] n) t)).heap.size := by simp
  generalize w.alloc (.cells (madeCells #[.slice none 0 0] n) t) = W at *
  refine ⟨fun i hi => ?_, fun o => by unfold World.frozen?; simp only [hh]; simp, hlt⟩
  unfold World.cell?; simp only [hh]; simp [madeCells, hi, Nat.mod_one]
/-- a list of rows, the powers of the points -/
def GridI (w : World) (v : Value) (ps : List (Int × Int)) : Prop :=
  ∃ (g : Nat) (F : Nat → Nat), v = .slice (some ⟨g, 0, none⟩) ps.length ps.length ∧ VRow w g ps.length (fun j => .slice (some ⟨F j, 0, none⟩) ps.length ps.length) ∧ ∀ j, j < ps.length → IRow w (F j) (pwr ps j)
theorem GridI.below {w w' : World} {v : Value} {ps : List (Int × Int)} (h : GridI w v ps) (hb : Below w.heap.size w w') : GridI w' v ps := by
  obtain ⟨g, F, rfl, h1, h2⟩ := h
  exact ⟨g, F, rfl, h1.step hb, fun j hj => (h2 j hj).step hb⟩
def gTo (F : Nat → Nat) (n k : Nat) : Nat → Value := fun j => if j < k then .slice (some ⟨F j, 0, none⟩) n n else .slice none 0 0
theorem gTo_u32 (F : Nat → Nat) (n k j : Nat) (z : Int) : gTo F n k j ≠ .int .u32 z := by unfold gTo; split <;> simp
theorem gTo_put (F : Nat → Nat) (n k g : Nat) : (fun j => if j = k then Value.slice (some ⟨g, 0, none⟩) n n else gTo F n k j) = gTo (fun j => if j = k then g else F j) n (k + 1) := by
  funext j
  unfold gTo
  by_cases e : j = k
  · subst e; simp
  · rw [if_neg e]
    by_cases h : j < k
    · rw [if_pos h, if_pos (by omega)]
      dsimp only
      rw [if_neg e]
    · rw [if_neg h, if_neg (by omega)]

set_option maxRecDepth 100000 in
set_option maxHeartbeats 4000000 in
theorem sgrid_any (va : Value) (ps : List (Int × Int)) (w : World) (h : PtsAt w va ps) :
    Calls Try.prog 30 #[va] w fun e w' => ∃ v x, e = .returned (.tuple #[v, .int .i64 x]) ∧ ((Rgt ps ∧ x = 0 ∧ GridI w' v ps) ∨ (¬ Rgt ps ∧ x = 2 ∧ v = .slice none 0 0)) ∧ Below w.heap.size w w' := by
  have HI := hide h
  obtain ⟨a, cap, rfl, hcap, hmx, _⟩ := h
  unfold maxLen at hmx
  go_enter Try.func30, Try.ntmps30
  go_wp2_with fail
  refine (srt_any _ ps _ HI.out).mono ?_
  rintro e w1 ⟨⟨r, rfl, hr⟩, hb⟩
  have HB := hide hb
  have HR := hide hr
  clear hb hr
  cases r with
  | false =>
    go_wp2
    go_ret2
    exact ⟨_, _, rfl, .inr ⟨fun h => (by have := HR.out.2 h; cases this), rfl, rfl⟩, HB.out⟩
  | true =>
    have RG := hide (HR.out.1 rfl)
    clear HR
    have hmk := run_makeG ps.length (by have := RG.out.hi; omega)
    have VR := hide (VRow.new w1 ps.length 40)
    have BA := hide (below_alloc w1 (.cells (madeCells #[.slice none 0 0] ps.length) 40))
    have L15 := RG.out.hi
    go_wp2
    clear hmk
    have GW : Hid (w.heap.size ≤ w1.heap.size) := hide HB.out.size
    replace HB := hide (HB.out.trans (BA.out.mono HB.out.size))
    clear BA
    generalize w1.alloc (.cells (madeCells #[.slice none 0 0] ps.length) 40) = w2 at *
    generalize w1.heap.size = G at *
    go_loopw [5, 6, 15] (fun _ _ iv wr => ∃ (k : Nat) (F : Nat → Nat), k ≤ ps.length ∧ iv = .int .i64 k ∧ VRow wr G ps.length (gTo F ps.length k) ∧ (∀ j, j < k → IRow wr (F j) (pwr ps j) ∧ F j ≠ G) ∧ Below w.heap.size w wr) (fun _ _ iv _ => ps.length - (intOf iv).toNat)
    case atStart => exact ⟨0, fun _ => 0, Nat.zero_le _, rfl, VR.out, (fun j hj => absurd hj (by omega)), HB.out⟩
    case round =>
      clear VR HB
      obtain ⟨k, F, hk, rfl, hv, hf, hb⟩ := hrel
      have VR := hide hv
      have FR := hide hf
      have HB := hide hb
      clear hv hf hb
      by_cases hlt : k < ps.length
      · obtain ⟨b, off, rfl, hc⟩ := (HI.out.below HB.out).at2 hlt
        have c0 := hc.cell0
        have c1 := hc.cell1
        have HP : Hid (inB (pA ps k) (pB ps k) = true) := hide (RG.out.each k hlt).1
        have HQ : Hid (pwr ps k = (List.range ps.length).map (powf (pA ps k) (pB ps k) ps.length)) := hide rfl
        clear hc
        generalize pA ps k = x at *
        generalize pB ps k = y at *
        have HA := hide (below_alloc wr (.cells #[.int .i64 x, .int .i64 y] 61))
        have PX := hide (Box2.new wr 61 (.int .i64 x) (.int .i64 y))
        have x0 := PX.out.cell0
        have x1 := PX.out.cell1
        go_wp2_with fail
        refine (powers_in x y ps.length _ HP.out (by omega)).mono ?_
        rintro e w4 ⟨g, rfl, hg, hb⟩
        rw [← HQ.out] at hg
        have HG := hide hg
        replace VR := hide ((VR.out.step HA.out).step hb)
        replace FR := hide (fun j hj => And.intro (((FR.out j hj).1.step HA.out).step hb) (FR.out j hj).2)
        replace HB := hide ((HB.out.trans (HA.out.mono HB.out.size)).trans (hb.mono (HB.out.trans (HA.out.mono HB.out.size)).size))
        have GG : Hid (g ≠ G) := hide (by
          rintro rfl
          obtain ⟨s, m, n, c, k1, _⟩ := hg.cells 0 (by rw [pwr_len]; omega)
          rw [Nat.zero_mul, VR.out.cells 0 (by omega)] at k1
          unfold gTo at k1
          split at k1 <;> simp at k1)
        clear hb hg c0 c1 x0 x1 HA PX
        have g1 := VR.out.cells k hlt
        have f1 := VR.out.free k
        go_wp2
        go_roundw
        case rel =>
          refine ⟨k + 1, fun j => if j = k then g else F j, by omega, by go_num, ?_, ?_, HB.out.setCell GW.out _⟩
          · rw [← gTo_put]; exact VR.out.put hlt _
          · intro j hj
            dsimp only
            by_cases e : j = k
            · subst e
              rw [if_pos rfl]
              exact ⟨HG.out.aside g1 (gTo_u32 _ _ _ _) GG.out _, GG.out⟩
            · rw [if_neg e]
              have := FR.out j (by omega)
              exact ⟨this.1.aside g1 (gTo_u32 _ _ _ _) this.2 _, this.2⟩
        case measure => simp [intOf]; omega
      · have e : k = ps.length := by omega
        subst e
        go_wp2
        go_ret2
        refine ⟨_, _, rfl, .inl ⟨RG.out, rfl, G, F, rfl, ⟨fun i hi => ?_, VR.out.free, VR.out.lt⟩, fun j hj => (FR.out j hj).1⟩, HB.out⟩
        have := VR.out.cells i hi
        unfold gTo at this
        rw [if_pos hi] at this
        exact this

/-- the document's list of rows, while it is made: of its own, each row its powers -/
def GridO (w : World) (base : Nat) (v : Value) (ps : List (Int × Int)) (k : Nat) : Prop :=
  ∃ xs : List Value, Own1S w base 83 v k xs ∧ ∀ j, j < k → ∃ u, xs[j]? = some u ∧ RInts w u (pwr ps j)
/-- the document's list of rows -/
def GridR (w : World) (v : Value) (ps : List (Int × Int)) : Prop :=
  ∃ a cap, v = .slice a ps.length cap ∧ cap ≤ maxLen ∧ ps.length ≤ cap ∧ ∀ j, j < ps.length → ∃ b off u, a = some ⟨b, off, none⟩ ∧ w.cell? ⟨b, off + j, none⟩ = some u ∧ RInts w u (pwr ps j)
theorem GridR.below {w w' : World} {v : Value} {ps : List (Int × Int)} (h : GridR w v ps) (hb : Below w.heap.size w w') : GridR w' v ps := by
  obtain ⟨a, cap, rfl, h1, h2, h3⟩ := h
  refine ⟨a, cap, rfl, h1, h2, fun j hj => ?_⟩
  obtain ⟨b, off, u, e, k1, k2⟩ := h3 j hj
  exact ⟨b, off, u, e, (hb.cell (World.block_lt_of_cell? w _ k1)).trans k1, k2.below hb⟩
theorem GridO.below {w w' : World} {base : Nat} {v : Value} {ps : List (Int × Int)} {k : Nat} (h : GridO w base v ps k) (hb : Below w.heap.size w w') : GridO w' base v ps k := by
  obtain ⟨xs, h1, h2⟩ := h
  refine ⟨xs, h1.below hb, fun j hj => ?_⟩
  obtain ⟨u, e, k1⟩ := h2 j hj
  exact ⟨u, e, k1.below hb⟩
theorem GridO.done {w : World} {base : Nat} {v : Value} {ps : List (Int × Int)} (h : GridO w base v ps ps.length) : GridR w v ps := by
  obtain ⟨xs, ⟨⟨hl, h1⟩, _⟩, h2⟩ := h
  rcases h1 with ⟨rfl, h0⟩ | ⟨g, cap, cur, rfl, hbg, hh, hn, hm, hc, ht⟩
  · refine ⟨none, 0, by rw [h0], Nat.zero_le _, by omega, fun j hj => absurd hj (by omega)⟩
  · refine ⟨some ⟨g, 0, none⟩, cap, rfl, hm, hn, fun j hj => ?_⟩
    obtain ⟨u, e, k1⟩ := h2 j hj
    refine ⟨g, 0, u, rfl, ?_, k1⟩
    have hx : xs.length = ps.length := by rw [hl]; omega
    unfold World.cell?
    simp only [hh]
    rw [Nat.zero_add]
    have h3 : (cur.toList.take (ps.length * 1))[j]? = some u := by rw [ht]; exact e
    rw [List.getElem?_take, if_pos (by omega)] at h3
    simpa using h3
theorem RInts.other {w w' : World} {u : Value} {zs : List Int} {row : Option Nat} (h : RInts w u zs) (hg : w.grownBy w' row) (hs : Spares w w') (hne : ∀ g, row = some g → ∀ b off c n, u = .slice (some ⟨b, off, none⟩) n c → b ≠ g) : RInts w' u zs := by
  obtain ⟨a, cap, rfl, h1, h2, h3⟩ := h
  refine ⟨a, cap, rfl, h1, h2, fun hx => ?_⟩
  obtain ⟨b, off, rfl, hc⟩ := h3 hx
  refine ⟨b, off, rfl, fun i hi => ?_⟩
  obtain ⟨s, m, c, n, k1, k2, k3⟩ := hc i hi
  exact ⟨s, m, c, n, hg.cell k1 (fun e => hne b e.symm b off _ _ rfl rfl), hg.cell k2 (fun e => hne b e.symm b off _ _ rfl rfl), k3.keep hs⟩

/-- a row of numbers does not lie in a list of slices -/
theorem row_apart {w : World} {base : Nat} {v u : Value} {n : Nat} {xs : List Value} {zs : List Int} {e : TypeId} (h : Own1S w base e v n xs) (hu : RInts w u zs) (hz : zs ≠ []) : ∀ g, v.ownBlock = some g → ∀ b off c n, u = .slice (some ⟨b, off, none⟩) n c → b ≠ g := by
  rintro g hg b off c n rfl rfl
  obtain ⟨a', c', he, _, _, h3⟩ := hu
  obtain ⟨b', off', e1, hc⟩ := h3 hz
  simp only [Value.slice.injEq] at he
  rw [e1] at he
  simp only [Option.some.injEq, Addr.mk.injEq] at he
  obtain ⟨⟨rfl, rfl, _⟩, _⟩ := he
  obtain ⟨s, m, c, k, k1, _⟩ := hc 0 (List.length_pos_iff.2 hz)
  cases hb : w.heap[b]? with
  | none => simp [World.cell?, hb] at k1
  | some ob =>
    cases ob with
    | cells cur t fr =>
      have hc' : cur[off + 0 * 2]? = some (.bool s) := by simpa [World.cell?, hb] using k1
      have hm : (Value.bool s) ∈ cur.toList := by
        rw [← Array.getElem?_toList] at hc'
        exact List.mem_of_getElem? hc'
      obtain ⟨_, _, _, h9⟩ := h.2 b cur t fr hg hb _ hm
      cases h9
    | _ => simp [World.cell?, hb] at k1
theorem pwr_ne {ps : List (Int × Int)} (h : 1 ≤ ps.length) (i : Nat) : pwr ps i ≠ [] := by
  intro e
  have := pwr_len ps i
  rw [e] at this
  simp at this
  omega
theorem GridO.app {w w' : World} {base : Nat} {v v' : Value} {ps : List (Int × Int)} {k : Nat} {xs : List Value} {m0 : Option Addr} {l0 c0 : Nat} (hp : 1 ≤ ps.length) (h1 : Own1S w base 83 v k xs) (h2 : ∀ j, j < k → ∃ u, xs[j]? = some u ∧ RInts w u (pwr ps j))
    (hu : RInts w (.slice m0 l0 c0) (pwr ps k)) (h3 : Own1S w' base 83 v' (k + 1) (xs ++ [.slice m0 l0 c0])) (hg : w.grownBy w' v.ownBlock) : GridO w' base v' ps (k + 1) := by
  have hs := h1.spares hg
  have hl : xs.length = k := by rw [h1.1.1]; omega
  refine ⟨_, h3, fun j hj => ?_⟩
  by_cases e : j = k
  · subst e
    refine ⟨.slice m0 l0 c0, by rw [List.getElem?_append_right (by omega), hl]; simp, hu.other hg hs (row_apart h1 hu (pwr_ne hp j))⟩
  · obtain ⟨u, k1, k2⟩ := h2 j (by omega)
    exact ⟨u, by rw [List.getElem?_append_left (by omega)]; exact k1, k2.other hg hs (row_apart h1 k2 (pwr_ne hp j))⟩
theorem GridO.start (w : World) (base : Nat) (ps : List (Int × Int)) : GridO w base (.slice none 0 0) ps 0 := ⟨[], Own1S.nil _ _ _, fun j hj => absurd hj (by omega)⟩
theorem Try.infoRow4 : (Try.prog.info? 83).map (fun i => (i.zero, i.size, i.bytes)) = some (some (.slice none 0 0), 1, 24) := by kernel_rfl

set_option maxRecDepth 100000 in
set_option maxHeartbeats 4000000 in
theorem rgrid_any (va : Value) (ps : List (Int × Int)) (w : World) (h : PtsAt w va ps) (hr : Rgt ps) :
    Calls Try.prog 33 #[va] w fun e w' => ∃ v, e = .returned v ∧ GridR w' v ps ∧ Below w.heap.size w w' := by
  obtain ⟨i0, hi0, hz0, hz1, hz2⟩ := info_parts Try.infoRow4
  have TR := hide (And.intro hi0 (And.intro hz0 (And.intro hz1 hz2)))
  clear hi0 hz0 hz1 hz2
  have HI := hide h
  have RG := hide hr
  obtain ⟨a, cap, rfl, hcap, hmx, _⟩ := h
  unfold maxLen at hmx
  have L15 := hr.hi
  have L1 := hr.lo
  clear hr
  go_enter Try.func33, Try.ntmps33
  go_wp2
  go_loopw [3, 4] (fun ov iv wr => ∃ k : Nat, k ≤ ps.length ∧ iv = .int .i64 k ∧ GridO wr w.heap.size ov ps k ∧ Below w.heap.size w wr) (fun _ iv _ => ps.length - (intOf iv).toNat)
  case atStart => exact ⟨0, Nat.zero_le _, rfl, GridO.start _ _ _, Below.refl _ _⟩
  case round =>
    obtain ⟨k, hk, rfl, ho, hb⟩ := hrel
    have GO := hide ho
    have HB := hide hb
    clear ho hb
    by_cases hlt : k < ps.length
    · obtain ⟨b, off, rfl, hc⟩ := (HI.out.below HB.out).at2 hlt
      have c0 := hc.cell0
      have c1 := hc.cell1
      have HP : Hid (inB (pA ps k) (pB ps k) = true) := hide (RG.out.each k hlt).1
      have HQ : Hid (pwr ps k = (List.range ps.length).map (powf (pA ps k) (pB ps k) ps.length)) := hide rfl
      clear hc
      generalize pA ps k = x at *
      generalize pB ps k = y at *
      go_wp2_with fail
      refine (rpowers_any x y ps.length _ HP.out (by omega)).mono ?_
      rintro e w4 ⟨v, rfl, hg, hb⟩
      rw [← HQ.out] at hg
      obtain ⟨m0, cp0, hv, _⟩ := id hg
      subst hv
      rw [pwr_len] at hg ⊢
      have al := below_alloc w4 (.cells #[.slice m0 ps.length cp0] 83)
      have HG := hide (hg.below al)
      replace HB := hide (HB.out.trans (hb.mono HB.out.size))
      replace HB := hide (HB.out.trans (al.mono HB.out.size))
      replace GO := hide ((GO.out.below hb).below al)
      have BX := hide (one_cell0 w4 (.slice m0 ps.length cp0) 83)
      clear hb hg c0 c1 al
      obtain ⟨xs, ho, hx⟩ := GO.out
      have OO := hide ho
      have OX := hide hx
      clear ho hx
      go_wp2_with (at_builtin; refine wpList_app1S _ rfl _ _ 81 rfl w.heap.size 83 i0 Try.underlying81 TR.out.1 TR.out.2.1 TR.out.2.2.1 TR.out.2.2.2 _ _ _ rfl OO.out w4.heap.size 1 m0 ps.length cp0 rfl BX.out (by omega) HB.out.size ?_; intro v' w5 hown hgrow hbl; have G5 := hide (GridO.app L1 OO.out OX.out HG.out hown hgrow); have B5 := hide (HB.out.grown hgrow HB.out.size (fun r e => (World.ownsRow.lt OO.out.1 _ e).1)); clear hown hgrow hbl)
      go_roundw
      case rel => exact ⟨k + 1, by omega, by go_num, G5.out, B5.out⟩
      case measure => simp [intOf]; omega
    · have e : k = ps.length := by omega
      subst e
      go_wp2
      go_ret
      exact ⟨_, rfl, GO.out.done, HB.out⟩
end Go.Proofs.Ytapodkjmhenceaa
