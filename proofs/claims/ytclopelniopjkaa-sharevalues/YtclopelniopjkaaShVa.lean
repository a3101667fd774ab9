/- Lists of two numbers each ([][2]int) in lists of one's own, and what stands while swagelaw14.ShareValues reckons. -/
import Derived.Test.YtclopelniopjkaaShTw
import Derived.Test.YtclopelniopjkaaShVl
import Derived.Test.YtclopelniopjkaaShRp
namespace Go.Proofs.Ytclopelniopjkaa
open Go.RowKit Go.Shelf

def twC (x : Tw) : List Value := [.int .i64 (x.1 : Nat), .int .i64 x.2]
def twCells : List Tw → List Value
  | [] => []
  | x :: l => twC x ++ twCells l
theorem twCells_length (l : List Tw) : (twCells l).length = l.length * 2 := by
  induction l with
  | nil => rfl
  | cons x l ih => simp only [twCells, twC, List.length_append, List.length_cons, List.length_nil, ih]; omega
theorem twCells_append (l m : List Tw) : twCells (l ++ m) = twCells l ++ twCells m := by
  induction l with
  | nil => rfl
  | cons x l ih => simp only [twCells, List.cons_append, ih, List.append_assoc]
theorem twCells_get (l : List Tw) : ∀ k (hk : k < l.length) r, r < 2 → (twCells l)[k * 2 + r]? = (twC l[k])[r]? := by
  induction l with
  | nil => intro k h; simp at h
  | cons x l ih =>
    intro k h r hr
    cases k with
    | zero =>
      simp only [twCells, Nat.zero_mul, Nat.zero_add, List.getElem_cons_zero]
      rw [List.getElem?_append_left (by simp [twC]; omega)]
    | succ k =>
      simp only [twCells, List.getElem_cons_succ]
      rw [List.getElem?_append_right (by simp [twC]; omega)]
      have := ih k (by simpa using h) r hr
      rw [← this]
      congr 1
      simp [twC]
      omega
theorem tw_one (l : List Tw) : ∀ u ∈ twCells l, u.oneCell' = true := by
  induction l with
  | nil => intro u h; simp [twCells] at h
  | cons x l ih =>
    intro u h
    rcases List.mem_append.1 h with h | h
    · simp [twC] at h
      rcases h with rfl | rfl <;> rfl
    · exact ih u h
abbrev OwnT (w : World) (base : Nat) (v : Value) (l : List Tw) : Prop := w.ownsRow base 44 2 v l.length (twCells l)
theorem OwnT.at {w : World} {base : Nat} {a : Option Addr} {n cap : Nat} {l : List Tw} (h : OwnT w base (.slice a n cap) l) {k : Nat} (hk : k < l.length) :
    ∃ g, a = some ⟨g, 0, none⟩ ∧ w.cell? ⟨g, k * 2, none⟩ = some (.int .i64 (l[k].1 : Nat)) ∧ w.cell? ⟨g, k * 2 + 1, none⟩ = some (.int .i64 l[k].2) := by
  rcases h.2 with ⟨h0, h1⟩ | ⟨g, cap', cur, h0, _⟩
  · omega
  · simp only [Value.slice.injEq] at h0
    obtain ⟨rfl, rfl, rfl⟩ := h0
    have hadd : ∀ j, (⟨g, 0, none⟩ : Addr).add j = ⟨g, 0 + j, none⟩ := fun j => by unfold Addr.add; split <;> simp_all
    have c := fun r (u : Value) (hr : r < 2) (hu : (twC l[k])[r]? = some u) => h.cells (g := g) rfl (k * 2 + r) u (by rw [twCells_get l k hk r hr]; exact hu)
    have c0 := c 0 _ (by omega) rfl
    have c1 := c 1 _ (by omega) rfl
    rw [hadd, Nat.zero_add] at c0 c1
    exact ⟨g, rfl, c0, c1⟩
theorem info_tw : (Try.prog.info? 44).map (fun i => (i.zero, i.size, i.bytes)) = some (some (.agg #[.int .i64 0, .int .i64 0]), 2, 16) := by kernel_rfl
theorem wp_appT (w : World) {o : Oper} {a : Act} {K : Act → World → Prop} {Q : Exit → Act → World → Prop} (s x : Operand)
    (ho : o.op = .call { callee := .builtin .append, args := #[s, x], argTypes := #[36, 36] }) (base : Nat) (v : Value) (k : List Tw) (hs : a.eval s = v) (hown : OwnT w base v k)
    (g cap : Nat) (y : Tw) (hx : a.eval x = .slice (some ⟨g, 0, none⟩) 1 cap) (hu : w.heap[g]? = some (.cells (twC y).toArray 44 (0, 0))) (hlen : k.length + 1 ≤ 1000000) (hbase : base ≤ w.heap.size)
    (h : ∀ v' w', OwnT w' base v' (k ++ [y]) → w.grownBy w' v.ownBlock → K (a.put o.dst v') w') : o.wp Try.prog a w K Q := by
  obtain ⟨i0, hi, hz0, hz1, hz2⟩ := info_parts info_tw
  refine wp_append_own w s x 36 ho base 44 i0 (.agg #[.int .i64 0, .int .i64 0]) 2 16 Try.underlying36 hi hz0 hz1 hz2 rfl (by decide) v _ _ hs hown ⟨g, 0, none⟩ 1 cap (twCells [y]) hx rfl
    (fun j u hj => ?_) (tw_one [y]) (by unfold maxLen; omega) (by omega) hbase ?_
  · have hadd : (⟨g, 0, none⟩ : Addr).add j = ⟨g, 0 + j, none⟩ := by unfold Addr.add; split <;> simp_all
    rw [hadd, Nat.zero_add]
    have e : twCells [y] = twC y := by simp [twCells]
    rw [e] at hj
    simp [World.cell?, hu, hj]
  · intro v' w' ho' hg _
    exact h v' w' (by show w'.ownsRow base 44 2 v' (k ++ [y]).length (twCells (k ++ [y])); rw [List.length_append, twCells_append]; exact ho') hg

/-- what stands while the law reckons: the document's state, and the list of those that came up twice in its box -/
structure VS (wb w : World) (S G : Nat) (vh vk vt : Value) (s : ShS) (l : List Tw) : Prop where
  bel : Below wb.heap.size wb w
  st : StAt w wb.heap.size S vh vk s
  box : Boxed w G 36 vt
  tw : OwnT w wb.heap.size vt l
  ge : wb.heap.size ≤ G
section
variable {wb w w' : World} {S G : Nat} {vh vk vt vk' vt' : Value} {s s' : ShS} {l l' : List Tw}
theorem VS.below (h : VS wb w S G vh vk vt s l) (hb : Below w.heap.size w w') : VS wb w' S G vh vk vt s l :=
  ⟨h.bel.trans (hb.mono h.bel.size), h.st.below hb, bx_step h.box hb, own_below h.tw hb, h.ge⟩
theorem VS.drew (h : VS wb w S G vh vk vt s l) : VS wb w.drew S G vh vk vt s l := ⟨h.bel.drew, h.st.drew, h.box, h.tw, h.ge⟩
theorem VS.reck (h : VS wb w S G vh vk vt s l) (hs : StillR w w' S vk.ownBlock) (hst : StAt w' wb.heap.size S vh vk' s') : VS wb w' S G vh vk' vt s' l :=
  ⟨h.bel.trans (hs.below h.bel.size h.st.ge (fun k hk => (World.ownsRow.lt h.st.keys k hk).1)), hst, hs.cells h.st h.box (by decide) (by decide), hs.own h.st h.tw (by decide) (by decide), h.ge⟩
theorem VS.app (h : VS wb w S G vh vk vt s l) (hg : w.grownBy w' vt.ownBlock) (ho : OwnT w' wb.heap.size vt' l') : VS wb (w'.setCell ⟨G, 0, none⟩ vt') S G vh vk vt' s l' := by
  have n1 := own_block_ne h.tw h.box (by decide)
  have n2 := own_block_ne h.tw h.st.box (by decide)
  have bx : Boxed w' G _ _ := (hg.block G h.box.lt (fun e => n1 e.symm)).trans h.box
  have sb : Box3 w' S _ _ _ _ := (hg.block S h.st.box.lt (fun e => n2 e.symm)).trans h.st.box
  have hh := World.ownsRow.kept h.st.held hg (rows_ne h.st.held h.tw (by decide))
  have hk := World.ownsRow.kept h.st.keys hg (rows_ne h.st.keys h.tw (by decide))
  have nGS : G ≠ S := fun e => absurd (cells_type (e ▸ h.box : w.heap[S]? = _) h.st.box) (by decide)
  exact ⟨(h.bel.grown hg h.bel.size (fun k hk => (World.ownsRow.lt h.tw k hk).1)).setCell (p := ⟨G, 0, none⟩) h.ge _, ⟨sb.other nGS _, own_set_ne hh (own_block_ne hh bx (by decide)) _, own_set_ne hk (own_block_ne hk bx (by decide)) _, h.st.ge⟩, bx.set _, own_set_ne ho (own_block_ne ho bx (by decide)) _, h.ge⟩
end
theorem VS.setH {wb w : World} {S G g cap m : Nat} {vk vt : Value} {s : ShS} {l : List Tw} (h : VS wb w S G (.slice (some ⟨g, 0, none⟩) m cap) vk vt s l) (t v : Int) : VS wb (w.setCell ⟨g, t.toNat, none⟩ (.int .i64 v)) S G (.slice (some ⟨g, 0, none⟩) m cap) vk vt (s.set t v) l := by
  have n1 : G ≠ g := by
    intro e
    subst e
    exact own_block_ne h.st.held h.box (by decide) rfl
  have n2 : vt.ownBlock ≠ some g := by
    rcases rows_ne h.tw h.st.held (by decide) with e | e
    · rw [e]; simp
    · exact e
  exact ⟨h.bel.setCell (p := ⟨g, t.toNat, none⟩) (World.ownsRow.lt h.st.held g rfl).1 _, h.st.setHeld t v, (Below.heap_setCell w ⟨g, t.toNat, none⟩ (.int .i64 v) G n1).trans h.box, own_set_ne h.tw n2 _, h.ge⟩
/-- what the law's Reckon tells of an instruction, and whether it is twice -/
theorem twf_succ (p : Pg) (k : Nat) : twf (tls p (k + 1)) = twf (tls p k) ++ (if ((runS p k).val k (cd p.code k)).2 < (k : Int) then [(k, ((runS p k).val k (cd p.code k)).2)] else []) := by
  rw [tls_succ, twf_app]
  unfold twF tl
  dsimp only
  split <;> rfl
theorem twf_len (l : List Tl) : (twf l).length ≤ l.length := List.length_filterMap_le _ _
theorem val_move {s : ShS} {n : Int} {i : Ins} (h : i.op = 1) : (s.val n i).2 = n := by unfold ShS.val; rw [if_pos h]
/-! marks of ranges that are through, and a range over what comes up twice -/
theorem MarksC.keeps {ds : List Nat} {B : Nat} {U V : World} (h : MarksC ds B U) (k : KeepsFrom B U V) : MarksC ds B V := ⟨h.1, fun D hD => ⟨(h.2 D hD).1, k.same D _ (h.2 D hD).1 (h.2 D hD).2 rfl⟩⟩
theorem MarksC.below {ds : List Nat} {B : Nat} {U V : World} (h : MarksC ds B U) (k : Below U.heap.size U V) : MarksC ds B V := ⟨h.1, fun D hD => ⟨(h.2 D hD).1, (k.block D (Array.getElem?_eq_some_iff.1 (h.2 D hD).2).1).trans (h.2 D hD).2⟩⟩
theorem MarksC.lt {ds : List Nat} {B : Nat} {U : World} (h : MarksC ds B U) : ∀ D ∈ ds, D < U.heap.size := fun D hD => (Array.getElem?_eq_some_iff.1 (h.2 D hD).2).1
theorem MarksC.mono {ds : List Nat} {B C : Nat} {U : World} (h : MarksC ds B U) (hC : C ≤ B) : MarksC ds C U := ⟨h.1, fun D hD => ⟨Nat.le_trans hC (h.2 D hD).1, (h.2 D hD).2⟩⟩
theorem MarksC.cons {ds : List Nat} {B D : Nat} {U : World} (h : MarksC ds B U) (hB : B ≤ D) (hD : U.heap[D]? = some (.deferred (some []))) (hn : ∀ E ∈ ds, E < D) : MarksC (D :: ds) B U :=
  ⟨List.nodup_cons.2 ⟨fun hm => by have := hn D hm; omega, h.1⟩, fun E hE => by
    rcases List.mem_cons.1 hE with rfl | hE
    · exact ⟨hB, hD⟩
    · exact h.2 E hE⟩
theorem marksC_own {β : Type} {ds : List Nat} {B C : Nat} (h : ∀ D ∈ ds, D < C) : OwnFrom C (fun (_ : β) Z => MarksC ds B Z) := fun _ X Y row hs hg hr =>
  ⟨hs.1, fun D hD => ⟨(hs.2 D hD).1, (hg.block D (Array.getElem?_eq_some_iff.1 (hs.2 D hD).2).1 (fun e => by have := (hr D e.symm).1; have := h D hD; omega)).trans (hs.2 D hD).2⟩⟩
theorem MarksC.turn {ds : List Nat} {B lo hi : Nat} {U V : World} (h : MarksC ds B U) (k : Turns lo hi U V) (hl : ∀ D ∈ ds, D < lo) : MarksC ds B V :=
  ⟨h.1, fun D hD => ⟨(h.2 D hD).1, (k.keep D (h.lt D hD) (.inl (hl D hD))).trans (h.2 D hD).2⟩⟩
/-- what stands in every round: F, and how many were told -/
def IWt (F : World → Prop) (I : Nat) (pre : List Tw) (W : World) : Prop := F W ∧ Boxed W I 3 (.int .i64 (pre.length : Nat))
def XWt (F : World → Prop) (I : Nat) (e : Prop) (stop : Int) (b : Nat) (c : Code) (_ : List Tw) (W : World) : Prop := c = .exit b ∧ e ∧ F W ∧ Boxed W I 3 (.int .i64 stop)
theorem IWt.own {F : World → Prop} {C : Nat} (hF : OwnFrom C (fun (_ : Unit) W => F W)) (I : Nat) : OwnFrom C (IWt F I) := fun _ X Y row hs hg hr => ⟨hF () X Y row hs.1 hg hr, boxOwn hs.2 hg (fun r e => (hr r e).2)⟩
theorem XWt.own {F : World → Prop} {C : Nat} (hF : OwnFrom C (fun (_ : Unit) W => F W)) (I : Nat) (e : Prop) (stop : Int) (b : Nat) (c : Code) : OwnFrom C (XWt F I e stop b c) := fun _ X Y row hs hg hr =>
  ⟨hs.1, hs.2.1, hF () X Y row hs.2.2.1 hg hr, boxOwn hs.2.2.2 hg (fun r e => (hr r e).2)⟩
theorem range_tw {ws : List Tw} {F : World → Prop} {e : Prop} {stop : Int} {I b n : Nat} {g : Operand} {ps : Array Tmp} {assign body : Code} {K : Act → World → Prop} {X : Exit → Act → World → Prop} {a : Act} {w : World} (h1 : 1 ≤ n) {gf : Nat} {lb : Array Value} (hg : a.eval g = .func (.func gf) #[] lb)
    (eg : ∀ args w, (callFunc gf args).run Try.prog w = .ok (.enter gf args) w) {lo hi : Nat} {w0 : World} (hseq : YieldsL (n - 1) Try.prog gf lb encW lo hi (fun ys => ys = ws) (fun pre => pre <+: ws) w0) (hhi : hi ≤ w.heap.size) (hb0 : Below w0.heap.size w0 w) (hps : ∀ x, (encW x).size = ps.size)
    (hF : OwnFrom w.heap.size (fun (_ : Unit) W => F W)) (hFT : ∀ L U V, w.heap.size + 2 ≤ L → L ≤ U.heap.size → F U → Turns (w.heap.size + 2) L U V → F V) (hF0 : ∀ V, Below w.heap.size w V → F V) (hI0 : Boxed w I 3 (.int .i64 0)) (f : Tw → Act)
    (hassign : ∀ (l L : Nat) (pre : List Tw) (x : Tw) (W : World) (K : Act → World → Prop), w.heap.size + 2 ≤ L → L ≤ W.heap.size → IWt F I pre W → (∀ a' V, KeepsFrom w.heap.size W V → KpL lo hi (w.heap.size + 2) L W V → IWt F I pre V → a' = f x → K a' V) →
      assign.wpIn (Fence.wide.inRound l) (n - 1 - 1) Try.prog (Exit.then K (fun _ _ _ => False)) { tmps := (ps.zip (encW x)).foldl (fun t (p, v) => t.setIfInBounds p v) a.tmps, defers := [] } W)
    (hbody : ∀ (l L : Nat) (pre : List Tw) (x : Tw) (W : World), w.heap.size + 2 ≤ L → L ≤ W.heap.size → IWt F I pre W → pre ++ [x] <+: ws → body.wpIn (Fence.wide.inRound l) (n - 1 - 1) Try.prog
      (ownPostG w.heap.size (KpL lo hi (w.heap.size + 2) L) (IWt F I) (XWt F I e stop b) (pre ++ [x]) W) (f x) W)
    (hnext : ∀ (M : Nat) (W : World) (v : Int), w.heap.size ≤ M → (v = (ws.length : Nat) ∨ (e ∧ v = stop)) → F W → Boxed W I 3 (.int .i64 v) → W.heap[M]? = some (.deferred (some [])) → K { a with defers := { target := .collected M, args := #[] } :: a.defers } W) :
    (Code.rangeFunc g ps assign body).wpIn Fence.wide n Try.prog (Exit.inBlock b (Exit.then K X)) a w := by
  refine rangeL h1 hg eg hseq hhi hb0 hps (fun _ => IWt F I) (fun _ => XWt F I e stop b) (fun _ => IWt.own hF I) (fun _ c => XWt.own hF I e stop b c)
    (fun L pre U V h1 h2 q ht => ⟨hFT L U V h1 h2 q.1 ht, (ht.keep I q.2.lt (.inl (by have := hI0.lt; omega))).trans q.2⟩)
    (fun V hV _ => ⟨hF0 V hV, bx_step hI0 hV⟩) (fun x a' _ => a' = f x) (fun _ _ => ownFrom_pure _ _) hassign
    (fun l L pre x a' W h1 h2 hi e hs => by subst e; exact hbody l L pre x W h1 h2 hi hs) ?_ ?_
  · rintro D L xs W hD _ rfl ⟨hf, hi⟩ hK _
    exact hnext D W _ hD (.inl rfl) hf hi hK
  · rintro D L c pre W hD _ _ ⟨rfl, he, hf, hi⟩ hK _
    refine wpIn_exit ?_
    have := hnext D W _ hD (.inr ⟨he, rfl⟩) hf hi hK
    simpa [Exit.inBlock, Exit.then] using this
theorem pre_at {pre ws : List Tw} {x : Tw} (h : pre ++ [x] <+: ws) : ∃ hk : pre.length < ws.length, ws[pre.length] = x := by
  obtain ⟨t, rfl⟩ := h
  exact ⟨by simp, by simp⟩
theorem ka_setL {lo hi B L I : Nat} (W : World) (v : Value) (h1 : hi ≤ I) (h2 : I < B) : KpL lo hi B L W (W.setCell ⟨I, 0, none⟩ v) := KpL.set W 0 v (fun k h => by omega)
theorem ot_vls (p : Pg) (n k : Nat) (h : k < n) : ot (vls (tls p n)) k = ((runS p k).val k (cd p.code k)).1 := by
  unfold ot vls tls tl
  simp [List.getD_eq_getElem?_getD, h]
end Go.Proofs.Ytclopelniopjkaa
