/- strings.SplitSeq by one byte: its iterator, left early or not. -/
import Derived.Test.YtenmogmdijnlhaaDoorRgLaw
import Derived.Test.YtenmogmdijnlhaaDoorShelf
import Derived.Lib.IndexLaws
namespace Go.Proofs.YtenmogmdijnlhaaDoor
open Go.RowKit Go.Shelf
attribute [local go_sem] Oper.semAt_some

/-- the bytes of a text, and back -/
def bl (s : ByteArray) : List UInt8 := s.data.toList
def mkB (l : List UInt8) : ByteArray := ⟨l.toArray⟩
theorem mkB_bl (s : ByteArray) : mkB (bl s) = s := by show (⟨s.data.toList.toArray⟩ : ByteArray) = s; rw [Array.toArray_toList]
theorem bl_mkB (l : List UInt8) : bl (mkB l) = l := by simp [mkB, bl]
theorem bl_len (s : ByteArray) : (bl s).length = s.size := by show s.data.toList.length = s.data.size; rw [Array.length_toList]
theorem bl_ext (s : ByteArray) (a b : Nat) : bl (s.extract a b) = ((bl s).take b).drop a := by
  unfold bl
  rw [ByteArray.data_extract, Array.toList_extract, List.extract_eq_take_drop, List.drop_take]
theorem bl_inj {s t : ByteArray} (h : bl s = bl t) : s = t := by rw [← mkB_bl s, ← mkB_bl t, h]
/-- cut at each byte c -/
def spl (c : UInt8) : List UInt8 → List (List UInt8)
  | [] => [[]]
  | b :: l => if b = c then [] :: spl c l else
    match spl c l with
    | [] => [[b]]
    | p :: ps => (b :: p) :: ps
theorem spl_none {c : UInt8} : ∀ {l : List UInt8}, c ∉ l → spl c l = [l]
  | [], _ => rfl
  | b :: l, h => by
    have h1 : b ≠ c := fun e => h (by simp [e])
    have h2 : c ∉ l := fun e => h (by simp [e])
    unfold spl
    rw [if_neg h1, spl_none h2]
theorem spl_at {c : UInt8} {r : List UInt8} : ∀ {l : List UInt8}, c ∉ l → spl c (l ++ c :: r) = l :: spl c r
  | [], _ => by
    show spl c (c :: r) = _
    rw [spl, if_pos rfl]
  | b :: l, h => by
    have h1 : b ≠ c := fun e => h (by simp [e])
    have h2 : c ∉ l := fun e => h (by simp [e])
    have e : spl c (b :: (l ++ c :: r)) = (match spl c (l ++ c :: r) with | [] => [[b]] | p :: ps => (b :: p) :: ps) := by rw [spl, if_neg h1]
    show spl c (b :: (l ++ c :: r)) = _
    rw [e, spl_at h2]
def splB (c : UInt8) (s : ByteArray) : List ByteArray := (spl c (bl s)).map mkB
theorem idx_cases (l : List UInt8) (c : UInt8) : (Lib.indexByte l c = -1 ∧ c ∉ l) ∨ ∃ o : Nat, Lib.indexByte l c = (o : Int) ∧ o < l.length ∧ l = l.take o ++ c :: l.drop (o + 1) ∧ c ∉ l.take o := by
  rcases Int.lt_or_le (Lib.indexByte l c) 0 with h | h
  · have e : Lib.indexByte l c = -1 := by have := Lib.indexByte_ge l c; omega
    refine .inl ⟨e, fun hm => ?_⟩
    obtain ⟨k, hk⟩ := List.getElem?_of_mem hm
    exact Lib.indexByte_none e k hk
  · obtain ⟨o, ho⟩ : ∃ o : Nat, Lib.indexByte l c = (o : Int) := ⟨(Lib.indexByte l c).toNat, by omega⟩
    obtain ⟨h1, h2⟩ := Lib.indexByte_some ho
    have hl := (List.getElem?_eq_some_iff.1 h1).1
    refine .inr ⟨o, ho, hl, ?_, fun hm => ?_⟩
    · have e : l.drop o = c :: l.drop (o + 1) := by rw [List.drop_eq_getElem_cons hl, (List.getElem?_eq_some_iff.1 h1).2]
      rw [← e, List.take_append_drop]
    · obtain ⟨k, hk⟩ := List.getElem?_of_mem hm
      have hlt := (List.getElem?_eq_some_iff.1 hk).1
      rw [List.length_take] at hlt
      rw [List.getElem?_take, if_pos (by omega)] at hk
      exact h2 k (by omega) hk
theorem splB_none {c : UInt8} {s : ByteArray} (h : c ∉ bl s) : splB c s = [s] := by unfold splB; rw [spl_none h]; simp [mkB_bl]
theorem splB_at {c : UInt8} {s : ByteArray} {o : Nat} (h : bl s = (bl s).take o ++ c :: (bl s).drop (o + 1)) (hn : c ∉ (bl s).take o) : splB c s = s.extract 0 o :: splB c (s.extract (o + 1) s.size) := by
  unfold splB
  rw [bl_ext, ← bl_len, List.take_length]
  conv => lhs; rw [h]
  rw [spl_at hn, List.map_cons]
  congr 1
  apply bl_inj
  rw [bl_mkB, bl_ext, List.drop_zero]

theorem spl_len {c : UInt8} : ∀ {l p : List UInt8}, p ∈ spl c l → p.length ≤ l.length
  | [], p, h => by simp [spl] at h; subst h; simp
  | b :: l, p, h => by
    rw [spl] at h
    split at h
    · rcases List.mem_cons.1 h with rfl | h
      · simp
      · have := spl_len h; simp; omega
    · cases hs : spl c l with
      | nil => rw [hs] at h; simp at h; subst h; simp
      | cons q qs =>
        rw [hs] at h
        rcases List.mem_cons.1 h with rfl | h
        · have := spl_len (c := c) (l := l) (p := q) (by rw [hs]; simp); simp; omega
        · have := spl_len (c := c) (l := l) (p := p) (by rw [hs]; simp [h]); simp; omega
theorem splB_size {c : UInt8} {s x : ByteArray} (h : x ∈ splB c s) : x.size ≤ s.size := by
  obtain ⟨p, hp, rfl⟩ := List.mem_map.1 h
  rw [← bl_len, bl_mkB, ← bl_len]
  exact spl_len hp
/-- blocks from lo to hi lie as they lay, and none is gone -/
def KC (lo hi : Nat) (_ : Nat) (U V : World) : Prop := (∀ k, lo ≤ k → k < hi → V.heap[k]? = U.heap[k]?) ∧ U.heap.size ≤ V.heap.size
theorem KC.trans {lo hi B : Nat} {X Y Z : World} (h : KC lo hi B X Y) (k : KC lo hi B Y Z) : KC lo hi B X Z := ⟨fun i h1 h2 => (k.1 i h1 h2).trans (h.1 i h1 h2), Nat.le_trans h.2 k.2⟩
theorem KC.boxed {lo hi B b : Nat} {X Y : World} {t : TypeId} {v : Value} (h : KC lo hi B X Y) (hb : Boxed X b t v) (h1 : lo ≤ b) (h2 : b < hi) : Boxed Y b t v := (h.1 b h1 h2).trans hb
/-- what the iterator turns itself -/
def setS (bs : Nat) (U V : World) : Prop := ∃ v : ByteArray, V = U.setCell ⟨bs, 0, none⟩ (.string v)
def strE (s : ByteArray) : Array Value := #[.string s]

set_option maxRecDepth 100000 in
set_option maxHeartbeats 4000000 in
theorem spl_in (n l bs : Nat) (c : UInt8) (s0 : ByteArray) (hs0 : s0.size ≤ 4000000000) (J Jx : List ByteArray → World → Prop) (W : World)
    (hC : ∀ pre U V, J pre U → setS bs U V → J pre V)
    (hY : ∀ pre x U, J pre U → pre ++ [x] <+: splB c s0 → YieldAt Fence.wide (n - 1) Tryd.prog l (strE x) U fun e V => KeepsFrom W.heap.size U V ∧ ((e = .returned (.bool true) ∧ J (pre ++ [x]) V ∧ KC bs (bs + 3) W.heap.size U V) ∨ (e = .returned (.bool false) ∧ Jx (pre ++ [x]) V)))
    (h1 : Boxed W bs 9 (.string s0)) (h2 : Boxed W (bs + 1) 9 (.string ⟨#[c]⟩)) (h3 : Boxed W (bs + 2) 3 (.int .i64 0)) (h0 : J [] W) :
    CallsIn Fence.wide n Tryd.prog 87 #[.func (.yield l) #[] #[], .pointer (some ⟨bs + 1, 0, none⟩), .pointer (some ⟨bs, 0, none⟩), .pointer (some ⟨bs + 2, 0, none⟩)] W fun e V => (∃ v, e = .returned v) ∧ ((∃ ys, ys = splB c s0 ∧ J ys V) ∨ (∃ pre, pre <+: splB c s0 ∧ Jx pre V)) := by
  have HY := hide hY
  have HC := hide hC
  have B1 := hide h1
  have B2 := hide h2
  have B3 := hide h3
  have J0 := hide h0
  clear hY hC h1 h2 h3 h0
  refine callsIn_of_wp Tryd.func87 rfl trivial ?_ rfl
  simp only [Tryd.ntmps87, List.size_toArray, List.length_cons, List.length_nil, Nat.reduceAdd, Nat.reduceSub, Array.replicate_succ, Array.replicate_zero, List.push_toArray, List.append_toArray, List.nil_append, List.cons_append]
  have c2 := B2.out.cell
  have hl2 : (⟨#[c]⟩ : ByteArray).size = 1 := rfl
  obtain ⟨sp, hsp⟩ : ∃ sp : ByteArray, sp = ⟨#[c]⟩ := ⟨_, rfl⟩
  have HSP := hide hsp
  rw [← hsp] at c2 hl2
  clear hsp
  gi_wp2
  have IX : Hid (∀ (s : ByteArray) (w : World), Calls Tryd.prog 89 #[.string s, .string sp] w fun e w' => e = .returned (.int .i64 (Lib.indexByte s.data.toList c)) ∧ w' = w) := hide (by rw [HSP.out]; exact fun s w => Tryd.strings_Index_one s c w)
  rw [← HSP.out] at B2
  clear HSP
  gi_loopg [7] s0.size (fun k _ wr => ∃ (pre : List ByteArray) (s : ByteArray), s.size ≤ k ∧ s.size ≤ 4000000000 ∧ splB c s0 = pre ++ splB c s ∧ J pre wr ∧ Boxed wr bs 9 (.string s) ∧ Boxed wr (bs + 1) 9 (.string sp) ∧ Boxed wr (bs + 2) 3 (.int .i64 0))
  case atStart => exact ⟨[], s0, Nat.le_refl _, hs0, rfl, J0.out, B1.out, B2.out, B3.out⟩
  case round =>
    clear c2 B1 B2 B3 J0
    obtain ⟨pre, s, hk, hm, hp, hJ, b1, b2, b3⟩ := hrel
    have HP := hide hp
    have JJ := hide hJ
    have B1 := hide b1
    have B2 := hide b2
    have B3 := hide b3
    clear hp hJ b1 b2 b3
    have c1 := B1.out.cell
    have c2 := B2.out.cell
    have c3 := B3.out.cell
    have f1 := B1.out.frozen
    rcases idx_cases (bl s) c with ⟨e, hn⟩ | ⟨o, e, ho, hb, hn⟩
    · have E := hide e
      have HN := hide (splB_none hn)
      clear e hn
      obtain ⟨fn1, tm1, as1, bd1, hy1, hr1⟩ := HY.out pre s wr JJ.out (by rw [HP.out, HN.out]; exact List.prefix_refl _)
      have R1 := hide hr1
      unfold strE at hy1
      clear hr1
      gi_wp2_with (refine ⟨trivial, fun h => (by cases h), ?_⟩; gi_at_call 89; refine (callsIn_wide.2 (IX.out s wr)).mono ?_; rintro e w' ⟨rfl, rfl⟩; rw [show Lib.indexByte s.data.toList c = -1 from E.out])
      refine ⟨(fun h => by cases h), R1.out.mono ?_⟩
      rintro e V ⟨_, (⟨rfl, j1, _⟩ | ⟨rfl, jx⟩)⟩
      · gi_wp2
        go_end0
        exact ⟨⟨_, rfl⟩, .inl ⟨_, rfl, by rw [HP.out, HN.out]; exact j1⟩⟩
      · gi_wp2
        go_end0
        exact ⟨⟨_, rfl⟩, .inr ⟨_, by rw [HP.out, HN.out]; exact List.prefix_refl _, jx⟩⟩
    · have E := hide e
      have HN := hide (splB_at hb hn)
      rw [bl_len] at ho
      clear e hn hb
      obtain ⟨fn1, tm1, as1, bd1, hy1, hr1⟩ := HY.out pre (s.extract 0 o) wr JJ.out (by rw [HP.out, HN.out]; exact ⟨splB c (s.extract (o + 1) s.size), by simp⟩)
      have R1 := hide hr1
      unfold strE at hy1
      clear hr1
      gi_wp2_with (refine ⟨trivial, fun h => (by cases h), ?_⟩; gi_at_call 89; refine (callsIn_wide.2 (IX.out s wr)).mono ?_; rintro e w' ⟨rfl, rfl⟩; rw [show Lib.indexByte s.data.toList c = (o : Int) from E.out])
      refine ⟨(fun h => by cases h), R1.out.mono ?_⟩
      rintro e V ⟨_, (⟨rfl, j1, ka⟩ | ⟨rfl, jx⟩)⟩
      · replace B1 := hide (ka.boxed B1.out (Nat.le_refl _) (by omega))
        replace B2 := hide (ka.boxed B2.out (by omega) (by omega))
        replace B3 := hide (ka.boxed B3.out (by omega) (by omega))
        have J2 := hide j1
        clear c1 c2 c3 f1 hy1 R1 ka j1 JJ
        have c1 := B1.out.cell
        have c2 := B2.out.cell
        have f1 := B1.out.frozen
        gi_wp2
        gi_roundg (s.extract (o + 1) s.size).size
        case measure => rw [ByteArray.size_extract]; omega
        exact ⟨pre ++ [s.extract 0 o], s.extract (o + 1) s.size, Nat.le_refl _, by rw [ByteArray.size_extract]; omega, by rw [HP.out, HN.out]; simp, HC.out _ _ _ J2.out ⟨_, rfl⟩, B1.out.set _, B2.out.other (by omega) _, B3.out.other (by omega) _⟩
      · clear c1 c2 c3 f1 hy1 R1
        gi_wp2
        refine bodyPost_ret (results_none rfl _ _ _) rfl ?_
        exact ⟨⟨_, rfl⟩, .inr ⟨_, by rw [HP.out, HN.out]; exact ⟨splB c (s.extract (o + 1) s.size), by simp⟩, jx⟩⟩

theorem spl_yields (n bs : Nat) (c : UInt8) (s0 : ByteArray) (hs0 : s0.size ≤ 4000000000) (w : World) (h1 : Boxed w bs 9 (.string s0)) (h2 : Boxed w (bs + 1) 9 (.string ⟨#[c]⟩)) (h3 : Boxed w (bs + 2) 3 (.int .i64 0)) :
    YieldsC n Tryd.prog 87 #[.pointer (some ⟨bs + 1, 0, none⟩), .pointer (some ⟨bs, 0, none⟩), .pointer (some ⟨bs + 2, 0, none⟩)] strE (KC bs (bs + 3)) (setS bs) (fun ys => ys = splB c s0) (fun pre => pre <+: splB c s0) w := by
  intro l J Jx W hW _ _ hC hY h0
  exact spl_in n l bs c s0 hs0 J Jx W hC hY ((hW.block _ h1.lt).trans h1) ((hW.block _ h2.lt).trans h2) ((hW.block _ h3.lt).trans h3) h0

set_option maxRecDepth 100000 in
theorem splitSeq_any (s p : ByteArray) (w : World) : Calls Tryd.prog 62 #[.string s, .string p, .int .i64 0] w fun e w' => ∃ bs, e = .returned (.func (.func 87) #[] #[.pointer (some ⟨bs + 1, 0, none⟩), .pointer (some ⟨bs, 0, none⟩), .pointer (some ⟨bs + 2, 0, none⟩)]) ∧
    w.heap.size ≤ bs ∧ Boxed w' bs 9 (.string s) ∧ Boxed w' (bs + 1) 9 (.string p) ∧ Boxed w' (bs + 2) 3 (.int .i64 0) ∧ Below w.heap.size w w' := by
  go_enter Tryd.func62, Tryd.ntmps62
  have b1 := below_alloc w (.cells #[.string s] 9)
  have b2 := below_alloc (w.alloc (.cells #[.string s] 9)) (.cells #[.string p] 9)
  have b3 := below_alloc ((w.alloc (.cells #[.string s] 9)).alloc (.cells #[.string p] 9)) (.cells #[.int .i64 0] 3)
  have x1 := Boxed.new w 9 (.string s)
  have x2 := Boxed.new (w.alloc (.cells #[.string s] 9)) 9 (.string p)
  have x3 := Boxed.new ((w.alloc (.cells #[.string s] 9)).alloc (.cells #[.string p] 9)) 3 (.int .i64 0)
  have y1 := (b3.block _ (by simp; omega)).trans ((b2.block _ (by simp)).trans x1)
  have y2 := (b3.block _ x2.lt).trans x2
  simp only [World.size_alloc, Nat.add_assoc, Nat.reduceAdd] at y2 x3
  have H := hide (And.intro y1 (And.intro y2 (And.intro x3 (b1.trans ((b2.trans (b3.mono b2.size)).mono b1.size)))))
  clear b1 b2 b3 x1 x2 x3 y1 y2
  go_wp2
  go_ret
  exact ⟨w.heap.size, rfl, Nat.le_refl _, H.out.1, H.out.2.1, H.out.2.2.1, H.out.2.2.2⟩
set_option maxRecDepth 100000 in
theorem seq_any (s p : ByteArray) (w : World) : Calls Tryd.prog 33 #[.string s, .string p] w fun e w' => ∃ bs, e = .returned (.func (.func 87) #[] #[.pointer (some ⟨bs + 1, 0, none⟩), .pointer (some ⟨bs, 0, none⟩), .pointer (some ⟨bs + 2, 0, none⟩)]) ∧
    w.heap.size ≤ bs ∧ Boxed w' bs 9 (.string s) ∧ Boxed w' (bs + 1) 9 (.string p) ∧ Boxed w' (bs + 2) 3 (.int .i64 0) ∧ Below w.heap.size w w' := by
  go_enter Tryd.func33, Tryd.ntmps33
  go_wp2_with fail
  refine (splitSeq_any s p w).mono ?_
  rintro e w' ⟨bs, rfl, H⟩
  have HH := hide H
  clear H
  go_wp2
  go_ret
  exact ⟨bs, rfl, HH.out⟩

/-- strings.Cut by one byte -/
def cutB (c : UInt8) (s : ByteArray) : ByteArray × ByteArray × Bool :=
  if Lib.indexByte (bl s) c < 0 then (s, ByteArray.empty, false) else (s.extract 0 (Lib.indexByte (bl s) c).toNat, s.extract ((Lib.indexByte (bl s) c).toNat + 1) s.size, true)
set_option maxRecDepth 100000 in
theorem cut_lite (s : ByteArray) (c : UInt8) (w : World) (hs : s.size ≤ 4000000000) : Calls Tryd.prog 49 #[.string s, .string ⟨#[c]⟩] w fun e w' => e = .returned (.tuple #[.string (cutB c s).1, .string (cutB c s).2.1, .bool (cutB c s).2.2]) ∧ Below w.heap.size w w' := by
  have hl2 : (⟨#[c]⟩ : ByteArray).size = 1 := rfl
  obtain ⟨sp, hsp⟩ : ∃ sp : ByteArray, sp = ⟨#[c]⟩ := ⟨_, rfl⟩
  have IX : Hid (∀ (s : ByteArray) (w : World), Calls Tryd.prog 74 #[.string s, .string sp] w fun e w' => e = .returned (.int .i64 (Lib.indexByte s.data.toList c)) ∧ w' = w) := hide (by rw [hsp]; exact fun s w => Tryd.stringslite_Index_one s c w)
  rw [← hsp] at hl2 ⊢
  clear hsp
  go_enter Tryd.func49, Tryd.ntmps49
  go_wp2_with fail
  refine (IX.out s w).mono ?_
  rintro e w' ⟨rfl, rfl⟩
  rcases idx_cases (bl s) c with ⟨e, hn⟩ | ⟨o, e, ho, hb, hn⟩
  · rw [show Lib.indexByte s.data.toList c = -1 from e]
    have CB : Hid (cutB c s = (s, ByteArray.empty, false)) := hide (by unfold cutB; rw [e]; rfl)
    clear e hn
    go_wp2
    go_ret3
    rw [CB.out]
    exact ⟨rfl, Below.refl _ _⟩
  · rw [show Lib.indexByte s.data.toList c = (o : Int) from e]
    have CB : Hid (cutB c s = (s.extract 0 o, s.extract (o + 1) s.size, true)) := hide (by unfold cutB; rw [e, if_neg (by omega)]; rfl)
    rw [bl_len] at ho
    clear e hn hb
    go_wp2
    go_region
    go_wp2
    go_ret3
    rw [CB.out]
    exact ⟨rfl, (Below.refl _ _).drew⟩
set_option maxRecDepth 100000 in
theorem cut_any (s : ByteArray) (c : UInt8) (w : World) (hs : s.size ≤ 4000000000) : Calls Tryd.prog 26 #[.string s, .string ⟨#[c]⟩] w fun e w' => e = .returned (.tuple #[.string (cutB c s).1, .string (cutB c s).2.1, .bool (cutB c s).2.2]) ∧ Below w.heap.size w w' := by
  have CL := hide (cut_lite s c w hs)
  generalize cutB c s = t at CL ⊢
  obtain ⟨x, y, z⟩ := t
  dsimp only at CL ⊢
  obtain ⟨sp, hsp⟩ : ∃ sp : ByteArray, sp = ⟨#[c]⟩ := ⟨_, rfl⟩
  rw [← hsp] at CL ⊢
  clear hsp
  go_enter Tryd.func26, Tryd.ntmps26
  go_wp2_with fail
  refine CL.out.mono ?_
  rintro e w' ⟨rfl, hb⟩
  go_wp2
  go_ret3
  exact ⟨rfl, hb⟩
end Go.Proofs.YtenmogmdijnlhaaDoor
