/- What both sides read of a list's text, held together. -/
import Derived.Test.YtenmogmdijnlhaaDoorPtTerms
import Derived.Lib.AtoiErrMem
import Derived.Test.YtenmogmdijnlhaaDoorRgLaw
import Derived.Test.YtenmogmdijnlhaaDoorInt
import Derived.Test.YtenmogmdijnlhaaDoorPtList
import Derived.Laws.AppendOwn
import Derived.Test.YtenmogmdijnlhaaDoorSplP
import Derived.OwnWalkIn
import Derived.Test.YtenmogmdijnlhaaDoorR6Tx
import Derived.Test.YtenmogmdijnlhaaDoorFault
import Derived.Test.YtenmogmdijnlhaaDoorPtTxl
namespace Go.Proofs.YtenmogmdijnlhaaDoor
open Go.RowKit

theorem var_below {P : Program} {w w' : World} {name : String} {x : Array Value} (h : w.var? P name = some x) (hb : Below w.heap.size w w') : w'.var? P name = some x := by
  unfold World.var? at *
  cases hg : P.globalNamed name with
  | none => simp [hg] at h
  | some g =>
    simp only [hg, Option.bind_some] at h ⊢
    have hlt : g < w.heap.size := by
      rcases Nat.lt_or_ge g w.heap.size with h1 | h1
      · exact h1
      · rw [Array.getElem?_eq_none (by omega)] at h; simp at h
    rw [hb.block g hlt]
    exact h
/-- the errors that Atoi hands back are there -/
def EV (w : World) : Prop := (∃ tp p, w.var? Tryd.prog "strconv.ErrSyntax" = some #[.iface tp p]) ∧ (∃ tp p, w.var? Tryd.prog "strconv.ErrRange" = some #[.iface tp p])
theorem EV.below {w w' : World} (h : EV w) (hb : Below w.heap.size w w') : EV w' := by
  obtain ⟨⟨a, b, h1⟩, c, d, h2⟩ := h
  exact ⟨⟨a, b, var_below h1 hb⟩, c, d, var_below h2 hb⟩
theorem EV.drew {w : World} (h : EV w) : EV w.drew := h
/-- a number and no error, or an error -/
def AtoiP (s : ByteArray) (e : Ending) : Prop := ∃ (v : Int) (ev : Value), e = .returned (.tuple #[.int .i64 v, ev]) ∧
  ((Lib.atoiAll s.data.toList = .ok v ∧ ev = .nilIface) ∨ ((∀ u, Lib.atoiAll s.data.toList ≠ .ok u) ∧ ∃ N, ev = .iface 155 (.pointer (some ⟨N, 0, none⟩))))
theorem atoi_any (s : ByteArray) (w : World) (hs : s.size ≤ 281474976710656) (h : EV w) : Calls Tryd.prog 64 #[.string s] w fun e w' => AtoiP s e ∧ Below w.heap.size w w' := by
  obtain ⟨⟨a, b, h1⟩, c, d, h2⟩ := h
  cases hr : Lib.atoiAll s.data.toList with
  | ok v =>
    refine (Tryd.strconv_Atoi_ok s (by omega) v hr w).mono ?_
    rintro e w' ⟨rfl, hw⟩
    refine ⟨⟨v, _, rfl, .inl ⟨hr, rfl⟩⟩, ?_⟩
    rcases hw with rfl | ⟨t, rfl⟩
    · exact Below.refl _ _
    · exact Lib.bytesWorld_below _ _ _
  | «syntax» =>
    refine (Tryd.strconv_Atoi_syntax_var s hs hr a b w h1).mono ?_
    rintro e w' ⟨N, rfl, _, _, hb⟩
    exact ⟨⟨_, _, rfl, .inr ⟨fun u hu => (by rw [hr] at hu; cases hu), N, rfl⟩⟩, hb⟩
  | range =>
    refine (Tryd.strconv_Atoi_range_var s hs hr c d w h2).mono ?_
    rintro e w' ⟨N, rfl, _, _, hb⟩
    exact ⟨⟨_, _, rfl, .inr ⟨fun u hu => (by rw [hr] at hu; cases hu), N, rfl⟩⟩, hb⟩
end Go.Proofs.YtenmogmdijnlhaaDoor

namespace Go.Proofs.YtenmogmdijnlhaaDoor
open Go.RowKit

/-- the point whose text it is -/
def rpP (s : ByteArray) : Option (Int × Int) :=
  match Lib.atoiAll (termsP s).1.data.toList, Lib.atoiAll (termsP s).2.data.toList with
  | .ok a, .ok b => if inB a b = true ∧ ptx a b = s then some (a, b) else none
  | _, _ => none
theorem rpP_yes {s : ByteArray} {a b : Int} (h1 : Lib.atoiAll (termsP s).1.data.toList = .ok a) (h2 : Lib.atoiAll (termsP s).2.data.toList = .ok b) : rpP s = if inB a b = true ∧ ptx a b = s then some (a, b) else none := by
  unfold rpP; rw [h1, h2]
theorem rpP_no1 {s : ByteArray} (h : ∀ u, Lib.atoiAll (termsP s).1.data.toList ≠ .ok u) : rpP s = none := by
  unfold rpP
  split
  · rename_i h1 _; exact absurd h1 (h _)
  · rfl
theorem rpP_no2 {s : ByteArray} (h : ∀ u, Lib.atoiAll (termsP s).2.data.toList ≠ .ok u) : rpP s = none := by
  unfold rpP
  split
  · rename_i _ h1; exact absurd h1 (h _)
  · rfl
/-- a point and a truth -/
def RpP (s : ByteArray) (e : Ending) : Prop := (∃ a b, rpP s = some (a, b) ∧ e = .returned (.tuple #[.agg #[.int .i64 a, .int .i64 b], .bool true])) ∨ (rpP s = none ∧ e = .returned (.tuple #[.agg #[.int .i64 0, .int .i64 0], .bool false]))
set_option maxRecDepth 100000 in
set_option maxHeartbeats 4000000 in
theorem rp_any (s : ByteArray) (w : World) (hs : s.size ≤ 4000000000) (hi : (inner s).size ≤ 4000000000) (h1 : (termsP s).1.size ≤ 281474976710656) (h2 : (termsP s).2.size ≤ 281474976710656) (hT : P10 w) (hE : EV w) :
    Calls Tryd.prog 34 #[.string s] w fun e w' => RpP s e ∧ Below w.heap.size w w' := by
  have SZ := hide (And.intro hs (And.intro hi (And.intro h1 h2)))
  have X0 := hide (Box2.new w 43 (.int .i64 0) (.int .i64 0))
  have HB := hide (below_alloc w (.cells #[.int .i64 0, .int .i64 0] 43))
  have TB := hide (And.intro (hT.below HB.out) (hE.below HB.out))
  clear hs hi h1 h2 hT hE
  go_enter Tryd.func34, Tryd.ntmps34
  go_wp2_with fail
  generalize w.alloc (.cells #[.int .i64 0, .int .i64 0] 43) = w0 at *
  refine (terms_any s _ SZ.out.1 SZ.out.2.1).mono ?_
  rintro e w1 ⟨rfl, hb⟩
  replace X0 := hide (X0.out.step hb)
  replace HB := hide (HB.out.trans (hb.mono HB.out.size))
  replace TB := hide (And.intro (TB.out.1.below hb) (TB.out.2.below hb))
  clear hb
  have Y1 := hide (fun (a b : Int) => @rpP_yes s a b)
  have N1 := hide (@rpP_no1 s)
  have N2 := hide (@rpP_no2 s)
  have ZZ := hide SZ.out.2.2
  obtain ⟨tt, htt⟩ : ∃ tt, tt = termsP s := ⟨_, rfl⟩
  rw [← htt] at Y1 N1 N2 ZZ ⊢
  clear htt SZ
  obtain ⟨x, y⟩ := tt
  dsimp only at Y1 N1 N2 ZZ ⊢
  go_wp2_with fail
  refine (atoi_any x _ ZZ.out.1 TB.out.2).mono ?_
  rintro e w2 ⟨⟨v1, e1, rfl, hr1⟩, hb⟩
  have R1 := hide hr1
  replace X0 := hide (X0.out.step hb)
  replace HB := hide (HB.out.trans (hb.mono HB.out.size))
  replace TB := hide (And.intro (TB.out.1.below hb) (TB.out.2.below hb))
  clear hb hr1
  go_wp2_with fail
  refine (atoi_any y _ ZZ.out.2 TB.out.2).mono ?_
  rintro e w3 ⟨⟨v2, e2, rfl, hr2⟩, hb⟩
  have R2 := hide hr2
  replace X0 := hide (X0.out.step hb)
  replace HB := hide (HB.out.trans (hb.mono HB.out.size))
  replace TB := hide (And.intro (TB.out.1.below hb) (TB.out.2.below hb))
  clear hb hr2
  go_upto_region 5 with fail
  have hb := below_alloc w3 (.cells #[.int .i64 v1, .int .i64 v2] 43)
  have XP := hide (Box2.new w3 43 (.int .i64 v1) (.int .i64 v2))
  replace X0 := hide (X0.out.step hb)
  replace HB := hide (HB.out.trans (hb.mono HB.out.size))
  replace TB := hide (And.intro (TB.out.1.below hb) (TB.out.2.below hb))
  clear hb
  generalize w3.alloc (.cells #[.int .i64 v1, .int .i64 v2] 43) = w4 at *
  generalize w3.heap.size = g4 at *
  rcases R1.out with ⟨a1, rfl⟩ | ⟨n1, N, rfl⟩
  · rcases R2.out with ⟨a2, rfl⟩ | ⟨n2, N, rfl⟩
    · have RP := hide (Y1.out v1 v2 a1 a2)
      clear a1 a2 R1 R2
      have c0 := XP.out.cell0
      have c1 := XP.out.cell1
      go_wp2_with fail
      refine (in_any v1 v2 _).mono ?_
      rintro e w5 ⟨rfl, hb⟩
      replace X0 := hide (X0.out.step hb)
      replace XP := hide (XP.out.step hb)
      replace HB := hide (HB.out.trans (hb.mono HB.out.size))
      replace TB := hide (And.intro (TB.out.1.below hb) (TB.out.2.below hb))
      clear hb c0 c1
      cases hin : inB v1 v2 with
      | false =>
        have RN : Hid (rpP s = none) := hide (by rw [RP.out, if_neg (by rw [hin]; simp)])
        clear hin RP
        have d0 := X0.out.cell0
        have d1 := X0.out.cell1
        have f0 := X0.out.free 0
        have f1 := X0.out.free 1
        go_wp2
        refine ret_pte rfl w.heap.size _ _ rfl ((X0.out.set0 _).set1 _) rfl ?_
        exact ⟨.inr ⟨RN.out, rfl⟩, (HB.out.setCell (p := ⟨w.heap.size, 0, none⟩) (Nat.le_refl _) _).setCell (p := ⟨w.heap.size, 1, none⟩) (Nat.le_refl _) _⟩
      | true =>
        have c0 := XP.out.cell0
        have c1 := XP.out.cell1
        have IN := hide (in_yes hin)
        have HIN := hide hin
        clear hin
        go_wp2_with fail
        refine (ptx_any v1 v2 _ (by have := IN.out; omega) (by have := IN.out; omega) (by have := IN.out; omega) (by have := IN.out; omega) TB.out.1).mono ?_
        rintro e w6 ⟨rfl, hb⟩
        replace X0 := hide (X0.out.step hb)
        replace XP := hide (XP.out.step hb)
        replace HB := hide (HB.out.trans (hb.mono HB.out.size))
        clear hb c0 c1
        have c0 := XP.out.cell0
        have c1 := XP.out.cell1
        have d0 := X0.out.cell0
        have d1 := X0.out.cell1
        have f0 := X0.out.free 0
        have f1 := X0.out.free 1
        by_cases hpx : ptx v1 v2 = s
        · have RN : Hid (rpP s = some (v1, v2)) := hide (by rw [RP.out, if_pos ⟨HIN.out, hpx⟩])
          rw [hpx]
          clear hpx RP
          go_wp2
          refine ret_pte rfl w.heap.size _ _ rfl ((X0.out.set0 _).set1 _) rfl ?_
          exact ⟨.inl ⟨_, _, RN.out, rfl⟩, (HB.out.setCell (p := ⟨w.heap.size, 0, none⟩) (Nat.le_refl _) _).setCell (p := ⟨w.heap.size, 1, none⟩) (Nat.le_refl _) _⟩
        · have RN : Hid (rpP s = none) := hide (by rw [RP.out, if_neg (fun h => hpx h.2)])
          generalize ptx v1 v2 = tx at *
          have nx := ba_ne hpx
          clear hpx RP
          go_wp2
          refine ret_pte rfl w.heap.size _ _ rfl ((X0.out.set0 _).set1 _) rfl ?_
          exact ⟨.inr ⟨RN.out, rfl⟩, (HB.out.setCell (p := ⟨w.heap.size, 0, none⟩) (Nat.le_refl _) _).setCell (p := ⟨w.heap.size, 1, none⟩) (Nat.le_refl _) _⟩
    · have RN := hide (N2.out n2)
      clear n2 R1 R2 a1
      have d0 := X0.out.cell0
      have d1 := X0.out.cell1
      have f0 := X0.out.free 0
      have f1 := X0.out.free 1
      go_wp2
      refine ret_pte rfl w.heap.size _ _ rfl ((X0.out.set0 _).set1 _) rfl ?_
      exact ⟨.inr ⟨RN.out, rfl⟩, (HB.out.setCell (p := ⟨w.heap.size, 0, none⟩) (Nat.le_refl _) _).setCell (p := ⟨w.heap.size, 1, none⟩) (Nat.le_refl _) _⟩
  · have RN := hide (N1.out n1)
    clear n1 R1 R2
    have d0 := X0.out.cell0
    have d1 := X0.out.cell1
    have f0 := X0.out.free 0
    have f1 := X0.out.free 1
    go_wp2
    refine ret_pte rfl w.heap.size _ _ rfl ((X0.out.set0 _).set1 _) rfl ?_
    exact ⟨.inr ⟨RN.out, rfl⟩, (HB.out.setCell (p := ⟨w.heap.size, 0, none⟩) (Nat.le_refl _) _).setCell (p := ⟨w.heap.size, 1, none⟩) (Nat.le_refl _) _⟩
end Go.Proofs.YtenmogmdijnlhaaDoor

namespace Go.Proofs.YtenmogmdijnlhaaDoor
open Go.RowKit

theorem cutB_sizesP (c : UInt8) (s : ByteArray) : (cutB c s).1.size ≤ s.size ∧ (cutB c s).2.1.size ≤ s.size := by
  unfold cutB
  split
  · exact ⟨Nat.le_refl _, by show ByteArray.empty.size ≤ _; simp⟩
  · simp only [ByteArray.size_extract]; omega
theorem inner_size (s : ByteArray) : (inner s).size ≤ s.size := by
  have h : (Lib.trimSuffix (rest40 s).data.toList [41]).length ≤ (rest40 s).data.toList.length := by
    unfold Lib.trimSuffix
    split
    · rw [List.length_take]; omega
    · exact Nat.le_refl _
  have h2 : (rest40 s).data.toList.length = (rest40 s).size := rfl
  have h3 : (inner s).size = (Lib.trimSuffix (rest40 s).data.toList [41]).length := rfl
  have := rest40_size s
  omega
theorem terms_size (s : ByteArray) : (termsP s).1.size ≤ s.size + 1 ∧ (termsP s).2.size ≤ s.size + 1 := by
  have h1 := cutB_sizesP 58 (inner s)
  have h2 := cutB_sizesP 47 s
  have h3 := inner_size s
  have e1 : (⟨#[49]⟩ : ByteArray).size = 1 := rfl
  have e2 : (⟨#[48]⟩ : ByteArray).size = 1 := rfl
  unfold termsP
  split
  · dsimp only; omega
  · split
    · dsimp only; omega
    · split
      · dsimp only; omega
      · dsimp only; omega
/-- point.readPoint, at any text that is not too long -/
theorem rp_all (s : ByteArray) (w : World) (hs : s.size ≤ 65536) (hT : P10 w) (hE : EV w) :
    Calls Tryd.prog 34 #[.string s] w fun e w' => RpP s e ∧ Below w.heap.size w w' :=
  rp_any s w (by omega) (by have := inner_size s; omega) (by have := terms_size s; omega) (by have := terms_size s; omega) hT hE
end Go.Proofs.YtenmogmdijnlhaaDoor

namespace Go.Proofs.YtenmogmdijnlhaaDoor
open Go.RowKit

/-- the digits of a number below 100 -/
def dgS (u : Nat) : List UInt8 := if u < 10 then [UInt8.ofNat (48 + u)] else [UInt8.ofNat (48 + u / 10), UInt8.ofNat (48 + u % 10)]
theorem dgS_eq {u : Nat} (h : u < 100) : Lib.decDigits u = dgS u := by
  unfold dgS
  split
  · exact Lib.decDigits_one (by assumption)
  · exact Lib.decDigits_two (by assumption) h
def itS (n : Int) : List UInt8 := if n < 0 then 45 :: dgS n.natAbs else dgS n.toNat
theorem itS_eq {n : Int} (h : -16 ≤ n ∧ n ≤ 16) : itB n = ⟨(itS n).toArray⟩ := by
  unfold itB Lib.itoa itS
  split
  · rw [dgS_eq (by omega)]
  · rw [dgS_eq (by omega)]
/-- a text as a list -/
def ptS (a b : Int) : List UInt8 :=
  if b = 1 then itS a else if a = 1 ∧ b = 0 then [105, 110, 102] else if 1 < b ∧ Int.gcd a b = 1 then itS a ++ 47 :: itS b else 40 :: (itS a ++ 58 :: (itS b ++ [41]))
theorem ptS_eq {a b : Int} (h : inB a b = true) : ptx a b = ⟨(ptS a b).toArray⟩ := by
  have hi := in_yes h
  have hg : gI a b = 1 ↔ Int.gcd a b = 1 := by unfold gI; omega
  unfold ptx ptS
  rw [itS_eq hi.1, itS_eq hi.2]
  simp only [hg]
  split
  · rfl
  · split
    · rfl
    · split
      · apply ByteArray.ext; simp [ByteArray.data_append]
      · apply ByteArray.ext; simp [ByteArray.data_append]
/-- what is asked of a point's text -/
def okS (a b : Int) : Bool :=
  let t : ByteArray := ⟨(ptS a b).toArray⟩
  decide (Lib.atoiAll (termsP t).1.data.toList = .ok a) && decide (Lib.atoiAll (termsP t).2.data.toList = .ok b) && decide ((ptS a b).length ≤ 9) && decide (0 < (ptS a b).length) && !(ptS a b).contains 32
theorem okS_all : ∀ i : Fin 33, ∀ j : Fin 33, okS ((i : Nat) - 16) ((j : Nat) - 16) = true := by decide +kernel
theorem okS_in {a b : Int} (h : inB a b = true) : okS a b = true := by
  have hi := in_yes h
  have := okS_all ⟨(a + 16).toNat, by omega⟩ ⟨(b + 16).toNat, by omega⟩
  simp only at this
  rw [show (((a + 16).toNat : Nat) : Int) - 16 = a by omega, show (((b + 16).toNat : Nat) : Int) - 16 = b by omega] at this
  exact this
theorem rp_ptx {a b : Int} (h : inB a b = true) : rpP (ptx a b) = some (a, b) := by
  have hk := okS_in h
  unfold okS at hk
  simp only [Bool.and_eq_true, decide_eq_true_eq] at hk
  rw [← ptS_eq h] at hk
  rw [rpP_yes hk.1.1.1.1 hk.1.1.1.2, if_pos ⟨h, rfl⟩]
theorem ptx_in {a b : Int} (h : inB a b = true) : (ptx a b).size ≤ 9 ∧ 0 < (ptx a b).size ∧ (32 : UInt8) ∉ bl (ptx a b) := by
  have hk := okS_in h
  unfold okS at hk
  simp only [Bool.and_eq_true, decide_eq_true_eq] at hk
  have e : (ptx a b).size = (ptS a b).length := by rw [ptS_eq h]; rfl
  refine ⟨by omega, by omega, ?_⟩
  have e2 : bl (ptx a b) = ptS a b := by rw [ptS_eq h]; rfl
  rw [e2]
  intro hm
  have := hk.2
  simp only [Bool.not_eq_true', List.contains_eq_mem, decide_eq_false_iff_not] at this
  exact this hm
theorem rp_told {s : ByteArray} {a b : Int} (h : rpP s = some (a, b)) : inB a b = true ∧ ptx a b = s := by
  unfold rpP at h
  split at h
  · split at h
    · rename_i hc
      simp only [Option.some.injEq, Prod.mk.injEq] at h
      obtain ⟨rfl, rfl⟩ := h
      exact hc
    · cases h
  · cases h
end Go.Proofs.YtenmogmdijnlhaaDoor

namespace Go.Proofs.YtenmogmdijnlhaaDoor
open Go.RowKit Go.Shelf

theorem boxed_step {W W' : World} {B : Nat} {t : TypeId} {v : Value} (h : Boxed W B t v) (hb : Below W.heap.size W W') : Boxed W' B t v := (hb.block B h.lt).trans h
/-- marks of ranges that are through -/
def mksC (ds : List Nat) : List Deferred := ds.map fun D => { target := .collected D, args := #[] }
def MarksC (ds : List Nat) (B : Nat) (w : World) : Prop := ds.Nodup ∧ ∀ D ∈ ds, B ≤ D ∧ w.heap[D]? = some (.deferred (some []))
theorem MarksC.one {D B : Nat} {w : World} (h : B ≤ D) (hd : w.heap[D]? = some (.deferred (some []))) : MarksC [D] B w := ⟨by simp, fun E hE => by simp at hE; subst hE; exact ⟨h, hd⟩⟩
theorem leavesC {n : Nat} {fn : Func} {tmps : Array Value} {R : Ending → World → Prop} {β : Type} {B : Nat} {I : β → World → Prop} (hI : OwnFrom B I) (s : β) (hR : ∀ V, I s V → ∃ v, (results fn tmps).run Tryd.prog V = .ok v V ∧ R (.returned v) V) :
    ∀ (ds : List Nat) (W : World), MarksC ds B W → I s W → LeavesInM Fence.wide n Tryd.prog fn tmps R (mksC ds) .returning W
  | [], W, _, h => by obtain ⟨v, h1, h2⟩ := hR W h; exact ⟨_, h1, h2⟩
  | D :: ds, W, hm, h => by
    have hD := hm.2 D (by simp)
    have hn' := List.nodup_cons.1 hm.1
    refine ⟨by simp, .inl ⟨_, _, rfl, run_takeDeferred hD.2, leavesC hI s hR ds _ ⟨hn'.2, fun E hE => ⟨(hm.2 E (by simp [hE])).1, ?_⟩⟩ (hI.putObj _ h hD.1 hD.2 rfl)⟩⟩
    exact (World.putObj_heap_other (by rintro rfl; exact hn'.1 hE)).trans (hm.2 E (by simp [hE])).2
def postC (n : Nat) (fn : Func) (R : Ending → World → Prop) : Exit → Act → World → Prop
  | .normal, a, w | .ret, a, w => LeavesInM Fence.wide n Tryd.prog fn a.tmps R a.defers .returning w
  | _, _, _ => False
theorem postC_sub {n : Nat} {fn : Func} {R : Ending → World → Prop} (e : Exit) (a : Act) (w : World) (h : postC n fn R e a w) : bodyPostM Fence.wide n Tryd.prog fn R e a w := by
  cases e <;> first | exact h | exact h.elim
set_option maxRecDepth 100000 in
theorem callsC {n : Nat} {f : FuncId} {fn : Func} {c : Code} {args : Array Value} {w : World} {R : Ending → World → Prop} (hf : Tryd.prog.funcs[f]? = some fn) (hb : fn.body = some c)
    (h : c.wp Tryd.prog (postC n fn R) { tmps := args ++ Array.replicate (fn.ntmps - args.size) undef, defers := [] } w) : Calls Tryd.prog f args w R :=
  (callsIn_wide (n := n)).1 (callsIn_of_wp_marks hf hb trivial (wpIn_wide.2 (wp_mono h postC_sub)) rfl)

/-- a block of cells that is none of limbs -/
def NoLimb (W : World) (b : Nat) : Prop := ∀ o z, W.cell? ⟨b, o, none⟩ ≠ some (.int .u32 z)
theorem box2_own {β : Type} (B : Nat) (t : TypeId) (f g : β → Value) : Go.Own (fun s W => Box2 W B t (f s) (g s)) := fun s X Y row hs hg hrow =>
  (hg.block B hs.lt (fun e' => by obtain ⟨o, ho, hc⟩ := hrow B e'.symm; rw [show X.heap[B]? = _ from hs] at ho; cases ho; cases hc)).trans hs
/-- what a round keeps: what is no cell from B on, the blocks from lo to hi, what was there at T -/
structure Rn (B lo hi : Nat) (X Y : World) : Prop where
  kf : KeepsFrom B X Y
  kc : ∀ k, lo ≤ k → k < hi → Y.heap[k]? = X.heap[k]?
theorem Rn.refl (B lo hi : Nat) (X : World) : Rn B lo hi X X := ⟨KeepsFrom.refl _ _, fun _ _ _ => rfl⟩
theorem Rn.trans {B lo hi : Nat} {X Y Z : World} (h : Rn B lo hi X Y) (k : Rn B lo hi Y Z) : Rn B lo hi X Z := ⟨h.kf.trans k.kf, fun i h1 h2 => (k.kc i h1 h2).trans (h.kc i h1 h2)⟩
theorem Rn.below {B lo hi : Nat} {X Y : World} (hb : Below X.heap.size X Y) (hs : hi ≤ X.heap.size) : Rn B lo hi X Y :=
  ⟨⟨hb.size, fun k o _ hk _ => (hb.block k (Array.getElem?_eq_some_iff.1 hk).1).trans hk⟩, fun i _ h2 => hb.block i (by omega)⟩
theorem Rn.set {B lo hi b o : Nat} (X : World) (v : Value) (h : b < lo ∨ hi ≤ b) : Rn B lo hi X (X.setCell ⟨b, o, none⟩ v) :=
  ⟨(KeepsOthers.setCell _ _ _).from _, fun i h1 h2 => Below.heap_setCell _ _ _ _ (by show i ≠ b; omega)⟩
theorem Rn.grown {B lo hi : Nat} {X Y : World} {row : Option Nat} (hg : X.grownBy Y row) (hr : ∀ r, row = some r → (r < lo ∨ hi ≤ r) ∧ ∃ cs t f, X.heap[r]? = some (.cells cs t f)) (hs : hi ≤ X.heap.size) : Rn B lo hi X Y :=
  ⟨⟨hg.size, fun k o _ hk ho => (hg.block k (Array.getElem?_eq_some_iff.1 hk).1 (fun e => by obtain ⟨_, cs, t, f, h⟩ := hr k e.symm; rw [hk] at h; cases h; cases ho)).trans hk⟩,
   fun i h1 h2 => hg.block i (by omega) (fun e => by have := (hr i e.symm).1; omega)⟩
end Go.Proofs.YtenmogmdijnlhaaDoor

namespace Go.Proofs.YtenmogmdijnlhaaDoor
open Go.RowKit

/-- a point and the one across from it, if the point is told at h -/
def okP (h a b : Int) : Bool := (a == h || b == h) && (nA a b == a && nB a b == b) && b != 0
def twoP (h a b : Int) : List (Int × Int) := if okP h a b then [(a, b), (-a, b)] else []
def rowR (h b : Int) (n : Nat) : List (Int × Int) := (List.range n).flatMap fun (i : Nat) => twoP h ((i : Int) + 1) b
def hgtR (h : Nat) (n : Nat) : List (Int × Int) := (List.range n).flatMap fun (j : Nat) => rowR h j h
def allR (n : Nat) : List (Int × Int) := (0, 1) :: (1, 0) :: (List.range n).flatMap fun i => hgtR (i + 1) (i + 2)
/-- the cells of points -/
def ptV (ps : List (Int × Int)) : List Value := ps.flatMap fun p => [.int .i64 p.1, .int .i64 p.2]
theorem ptV_app (ps qs : List (Int × Int)) : ptV (ps ++ qs) = ptV ps ++ ptV qs := by simp [ptV]
theorem ptV_get : ∀ (ps : List (Int × Int)) (i : Nat), i < ps.length → (ptV ps)[i * 2]? = some (.int .i64 (pA ps i)) ∧ (ptV ps)[i * 2 + 1]? = some (.int .i64 (pB ps i))
  | [], _, h => absurd h (Nat.not_lt_zero _)
  | p :: ps, 0, _ => ⟨rfl, rfl⟩
  | p :: ps, i + 1, h => by
    have := ptV_get ps i (by simpa using h)
    rw [show (i + 1) * 2 = i * 2 + 1 + 1 from by omega]
    exact this
theorem Tryd.infoPtA : (Tryd.prog.info? 43).map (fun i => (i.zero, i.size, i.bytes)) = some (some (.agg #[.int .i64 0, .int .i64 0]), 2, 16) := by kernel_rfl
/-- a list of points of the call's own -/
def OwnP (w : World) (base : Nat) (v : Value) (ps : List (Int × Int)) : Prop := w.ownsRow base 43 2 v ps.length (ptV ps)
theorem OwnP.pts {w : World} {base : Nat} {v : Value} {ps : List (Int × Int)} (h : OwnP w base v ps) : PtsAt w v ps := by
  rcases h.2 with ⟨rfl, h0⟩ | ⟨g, cap, cur, rfl, _, hgg, hn, hm, _, _⟩
  · exact ⟨none, 0, by rw [h0], by rw [h0]; exact Nat.le_refl _, Nat.zero_le _, fun hne => absurd (List.eq_nil_of_length_eq_zero h0) hne⟩
  · refine ⟨_, cap, rfl, hn, hm, fun _ => ⟨g, 0, rfl, fun i hi => ?_⟩⟩
    have hp := ptV_get ps i hi
    have e : ∀ j, j < ps.length * 2 → w.cell? ⟨g, j, none⟩ = (ptV ps)[j]? := fun j hj => World.ownsRow.cellAt h j (by omega)
    exact ⟨by rw [show 0 + i * 2 = i * 2 from by omega, e _ (by omega)]; exact hp.1, by rw [show 0 + i * 2 = i * 2 from by omega, e _ (by omega)]; exact hp.2⟩

theorem OwnP.below {w w' : World} {base : Nat} {v : Value} {ps : List (Int × Int)} (h : OwnP w base v ps) (hb : Below w.heap.size w w') : OwnP w' base v ps := by
  refine ⟨h.1, ?_⟩
  rcases h.2 with h0 | ⟨g, cap, cur, e1, e2, hgg, rest⟩
  · exact .inl h0
  · exact .inr ⟨g, cap, cur, e1, e2, (hb.block g (Array.getElem?_eq_some_iff.1 hgg).1).trans hgg, rest⟩
theorem OwnP.start (w : World) : OwnP (w.alloc (.cells #[.int .i64 0, .int .i64 1, .int .i64 1, .int .i64 0] 43)) w.heap.size (.slice (some ⟨w.heap.size, 0, none⟩) 2 2) (allR 0) :=
  World.ownsRow_lit w #[.int .i64 0, .int .i64 1, .int .i64 1, .int .i64 0] 2 (Nat.le_refl _) (by unfold maxLen; decide) rfl

end Go.Proofs.YtenmogmdijnlhaaDoor

namespace Go.Proofs.YtenmogmdijnlhaaDoor
open Go.RowKit Go.Shelf
attribute [local go_sem] Oper.semAt_some

theorem str_emptyP (s : ByteArray) : s.toList.isEmpty = decide (s.size = 0) := by
  rw [ByteArray.toList_eq]
  cases h : s.data.toList with
  | nil => have : s.size = 0 := by show s.data.size = 0; rw [← Array.length_toList, h]; rfl
           simp [this]
  | cons a l => have : s.size ≠ 0 := by show s.data.size ≠ 0; rw [← Array.length_toList, h]; simp
                simp [this]
/-- the points of pieces -/
def ptsOf (ps : List ByteArray) : List (Int × Int) := ps.map fun x => (rpP x).getD (0, 0)
theorem ptsOf_app (ps : List ByteArray) (x : ByteArray) : ptsOf (ps ++ [x]) = ptsOf ps ++ [(rpP x).getD (0, 0)] := by simp [ptsOf]
theorem ptsOf_len (ps : List ByteArray) : (ptsOf ps).length = ps.length := by simp [ptsOf]
/-- all pieces are texts of points -/
def PDone (ps : List ByteArray) : Prop := ∀ x ∈ ps, rpP x ≠ none
theorem PDone.app {ps : List ByteArray} {x : ByteArray} (h : PDone ps) (k : rpP x ≠ none) : PDone (ps ++ [x]) := by
  intro y hy
  rcases List.mem_append.1 hy with hy | hy
  · exact h y hy
  · rw [List.mem_singleton.1 hy]; exact k
/-- what is read -/
def RdP (s : ByteArray) (v : Value) (a b : Nat) (w : World) : Prop :=
  (s.size = 0 ∧ v = .slice none 0 0 ∧ a = 0 ∧ b = 0) ∨
  (s.size ≠ 0 ∧ PDone (splB 32 s) ∧ PtsAt w v (ptsOf (splB 32 s)) ∧ a = 0 ∧ b = 0) ∨
  (s.size ≠ 0 ∧ v = .slice none 0 0 ∧ ∃ pre x, pre ++ [x] <+: splB 32 s ∧ PDone pre ∧ rpP x = none ∧ a = 6 ∧ b = totP pre)

theorem OwnP.other {X Y : World} {base : Nat} {v : Value} {ps : List (Int × Int)} {row : Option Nat} (h : OwnP X base v ps) (hg : X.grownBy Y row) (hne : ∀ g, v.ownBlock = some g → row ≠ some g) : OwnP Y base v ps := by
  refine ⟨h.1, ?_⟩
  rcases h.2 with h0 | ⟨g, cap, cur, e1, e2, hgg, rest⟩
  · exact .inl h0
  · exact .inr ⟨g, cap, cur, e1, e2, (hg.block g (Array.getElem?_eq_some_iff.1 hgg).1 (fun e => hne g (by rw [e1]; rfl) e.symm)).trans hgg, rest⟩
theorem OwnP.ge {X : World} {base : Nat} {v : Value} {ps : List (Int × Int)} (h : OwnP X base v ps) {g : Nat} (hv : v.ownBlock = some g) : base ≤ g ∧ ∃ cs t f, X.heap[g]? = some (.cells cs t f) := by
  rcases h.2 with ⟨rfl, _⟩ | ⟨g', cap, cur, e1, e2, hgg, rest⟩
  · cases hv
  · rw [e1] at hv
    have e : g' = g := by simpa [Value.ownBlock] using hv
    subst e
    exact ⟨e2, _, _, _, hgg⟩
theorem OwnP.grow {X Y : World} {base : Nat} {v : Value} {ps : List (Int × Int)} {row : Option Nat} (h : OwnP X base v ps) (hg : X.grownBy Y row) (hr : ∀ r, row = some r → ∃ o : Obj, X.heap[r]? = some o ∧ o.isCells = false) : OwnP Y base v ps :=
  h.other hg fun g hv e => by
    obtain ⟨_, cs, t, f, hc⟩ := h.ge hv
    obtain ⟨o, ho, hn⟩ := hr g e
    rw [hc] at ho
    cases ho
    cases hn
theorem OwnP.setC {X : World} {base b o : Nat} {v u : Value} {ps : List (Int × Int)} (h : OwnP X base v ps) (hlt : b < base) : OwnP (X.setCell ⟨b, o, none⟩ u) base v ps := by
  have hg : X.grownBy (X.setCell ⟨b, o, none⟩ u) (some b) := ⟨rfl, rfl, rfl, by simp [World.setCell], fun k _ h => Below.heap_setCell _ _ _ _ (by simpa using h)⟩
  exact h.other hg fun g hv e => by have := (h.ge hv).1; simp only [Option.some.injEq] at e; omega
theorem OwnP.none (w : World) (base : Nat) : OwnP w base (.slice none 0 0) [] := World.ownsRow_nil _ _ _ _
theorem res_bs {fn : Func} {p q : Tmp} (h : fn.results = #[.cell p 39, .cell q 33]) (tmps : Array Value) (w : World) (g g2 : Nat) (v s t : Value)
    (hp : tmps.getD p undef = .pointer (some ⟨g, 0, none⟩)) (hg : Boxed w g 39 v) (hq : tmps.getD q undef = .pointer (some ⟨g2, 0, none⟩)) (hg2 : Box2 w g2 33 s t) :
    (results fn tmps).run Tryd.prog w = .ok (.tuple #[v, .agg #[s, t]]) w := by
  have hp' : tmps[p]?.getD undef = .pointer (some ⟨g, 0, none⟩) := by simpa using hp
  have hq' : tmps[q]?.getD undef = .pointer (some ⟨g2, 0, none⟩) := by simpa using hq
  have hc := hg.cell
  have hc0 := hg2.cell0
  have hc1 := hg2.cell1
  simp [results, h, hp', hq', asAddr]
  go_simp
theorem keeps_drew {B : Nat} {X Y : World} (h : KeepsFrom B X Y) : KeepsFrom B X Y.drew := ⟨h.size, h.same⟩
theorem bx_setP {X : World} {b c o : Nat} {t : TypeId} {v u : Value} (h : Boxed X b t v) (hne : b ≠ c) : Boxed (X.setCell ⟨c, o, none⟩ u) b t v := (Below.heap_setCell _ _ _ _ hne).trans h
theorem bx2_setP {X : World} {b c o : Nat} {t : TypeId} {v y u : Value} (h : Box2 X b t v y) (hne : b ≠ c) : Box2 (X.setCell ⟨c, o, none⟩ u) b t v y := (Below.heap_setCell _ _ _ _ hne).trans h
theorem bx2_putP {W : World} {B : Nat} {t : TypeId} {x y : Value} (h : Box2 W B t x y) (x' y' : Value) : Box2 ((W.setCell ⟨B, 0, none⟩ x').setCell ⟨B, 1, none⟩ y') B t x' y' := (h.set0 _).set1 _
theorem two_cells {w : World} {g : Nat} {x y : Value} (h : Box2 w g 43 x y) : ∀ j u, ([x, y] : List Value)[j]? = some u → w.cell? ((⟨g, 0, none⟩ : Addr).add j) = some u := by
  intro j u hj
  match j with
  | 0 => simp only [List.getElem?_cons_zero, Option.some.injEq] at hj; rw [← hj]; exact h.cell0
  | 1 => simp only [List.getElem?_cons_succ, List.getElem?_cons_zero, Option.some.injEq] at hj; rw [← hj]; exact h.cell1
  | j + 2 => simp at hj
theorem own_snoc {w : World} {base : Nat} {v : Value} {ps : List (Int × Int)} {a b : Int} (h : w.ownsRow base 43 2 v (ps.length + 1) (ptV ps ++ [.int .i64 a, .int .i64 b])) : OwnP w base v (ps ++ [(a, b)]) := by
  unfold OwnP
  rw [ptV_app, List.length_append]
  exact h
/-- what stands while the pieces are read -/
structure PRS (w : World) (base R Q L A bs : Nat) (pre : List ByteArray) (Z : World) (v : Value) (x : ByteArray) : Prop where
  l : Boxed Z L 39 v
  li : OwnP Z base v (ptsOf pre)
  ok : PDone pre
  a : Boxed Z A 3 (.int .i64 (totP pre : Nat))
  r : Boxed Z R 39 (.slice none 0 0)
  q : Box2 Z Q 33 (.int .i64 0) (.int .i64 0)
  b : Boxed Z bs 9 (.string x)
  w : Below w.heap.size w Z
  z : base ≤ Z.heap.size
theorem PRS.below {w : World} {base R Q L A bs : Nat} {pre : List ByteArray} {Z Z' : World} {v : Value} {x : ByteArray} (q : PRS w base R Q L A bs pre Z v x) (hb : Below Z.heap.size Z Z') : PRS w base R Q L A bs pre Z' v x :=
  ⟨boxed_step q.l hb, q.li.below hb, q.ok, boxed_step q.a hb, boxed_step q.r hb, q.q.step hb, boxed_step q.b hb, q.w.trans (hb.mono q.w.size), Nat.le_trans q.z hb.size⟩
theorem PRS.kept {w : World} {base R Q L A bs : Nat} {pre : List ByteArray} {Z : World} {v : Value} {x : ByteArray} (q : PRS w base R Q L A bs pre Z v x) {Z5 : World} (hg : Z.grownBy Z5 v.ownBlock) {b : Nat} {o : Obj} (hb : b < base) (ho : Z.heap[b]? = some o) : Z5.heap[b]? = some o :=
  (hg.block b (Array.getElem?_eq_some_iff.1 ho).1 (fun e => by have := (q.li.ge e.symm).1; omega)).trans ho
theorem PRS.next {w : World} {base R Q L A bs : Nat} {pre : List ByteArray} {Z : World} {v : Value} {y : ByteArray} (q : PRS w base R Q L A bs pre Z v y) {x : ByteArray} {a b : Int} {Z5 : World} {v' : Value} (hrd : rpP x = some (a, b)) (hli : OwnP Z5 base v' (ptsOf pre ++ [(a, b)]))
    (hg : Z.grownBy Z5 v.ownBlock) (n : R < Q ∧ Q < L ∧ L < A ∧ A < bs ∧ bs + 3 ≤ base) (hw : w.heap.size ≤ R) (hwb : w.heap.size ≤ base) :
    PRS w base R Q L A bs (pre ++ [x]) ((Z5.setCell ⟨L, 0, none⟩ v').setCell ⟨A, 0, none⟩ (.int .i64 (totP pre + (x.size + 1) : Nat))) v' y := by
  have kl : Boxed Z5 L _ _ := q.kept hg (by omega) q.l
  have ka : Boxed Z5 A _ _ := q.kept hg (by omega) q.a
  have ks : Box2 Z5 Q _ _ _ := q.kept hg (by omega) q.q
  have kr : Boxed Z5 R _ _ := q.kept hg (by omega) q.r
  have kb : Boxed Z5 bs _ _ := q.kept hg (by omega) q.b
  have e : totP pre + (x.size + 1) = totP (pre ++ [x]) := by rw [tot_appP]; omega
  have e2 : ptsOf pre ++ [(a, b)] = ptsOf (pre ++ [x]) := by rw [ptsOf_app, hrd]; rfl
  rw [e]
  rw [e2] at hli
  exact ⟨bx_setP (kl.set _) (by omega), (hli.setC (by omega)).setC (by omega), q.ok.app (by rw [hrd]; simp), (bx_setP ka (by omega)).set _, bx_setP (bx_setP kr (by omega)) (by omega), bx2_setP (bx2_setP ks (by omega)) (by omega), bx_setP (bx_setP kb (by omega)) (by omega),
    ((q.w.grown hg q.w.size (fun r e => Nat.le_trans hwb (q.li.ge e).1)).setCell (p := ⟨L, 0, none⟩) (by show w.heap.size ≤ L; omega) _).setCell (p := ⟨A, 0, none⟩) (by show w.heap.size ≤ A; omega) _,
    by have := q.z; have := hg.size; simp [World.setCell]; omega⟩
def PIS (w : World) (base R Q L A bs : Nat) (pre : List ByteArray) (Z : World) : Prop := ∃ v x, PRS w base R Q L A bs pre Z v x
def PXS (w : World) (R Q : Nat) (c : Code) (pre : List ByteArray) (Z : World) : Prop :=
  c = .ret ∧ ∃ pre0 x, pre = pre0 ++ [x] ∧ PDone pre0 ∧ rpP x = none ∧ Boxed Z R 39 (.slice none 0 0) ∧ Box2 Z Q 33 (.int .i64 6) (.int .i64 (totP pre0 : Nat)) ∧ Below w.heap.size w Z
theorem bxOP {X Y : World} {b : Nat} {t : TypeId} {v : Value} {row : Option Nat} (h : Boxed X b t v) (hg : X.grownBy Y row) (hr : ∀ r, row = some r → ∃ o : Obj, X.heap[r]? = some o ∧ o.isCells = false) : Boxed Y b t v :=
  boxed_own b t (fun _ : Unit => v) () X Y row h hg hr
theorem bx2OP {X Y : World} {b : Nat} {t : TypeId} {v u : Value} {row : Option Nat} (h : Box2 X b t v u) (hg : X.grownBy Y row) (hr : ∀ r, row = some r → ∃ o : Obj, X.heap[r]? = some o ∧ o.isCells = false) : Box2 Y b t v u :=
  box2_own b t (fun _ : Unit => v) (fun _ => u) () X Y row h hg hr
theorem PIS.own {w : World} {base R Q L A bs C : Nat} (h : w.heap.size ≤ C) : OwnFrom C (PIS w base R Q L A bs) := fun _ _ _ _ ⟨v, x, q⟩ hg hr =>
  have hr' := fun r e => (hr r e).2
  ⟨v, x, bxOP q.l hg hr', q.li.grow hg hr', q.ok, bxOP q.a hg hr', bxOP q.r hg hr', bx2OP q.q hg hr', bxOP q.b hg hr', q.w.grown hg q.w.size (fun r e => Nat.le_trans h (hr r e).1), Nat.le_trans q.z hg.size⟩
theorem PXS.own {w : World} {R Q C : Nat} (h : w.heap.size ≤ C) (c : Code) : OwnFrom C (PXS w R Q c) := fun _ _ _ _ ⟨hc, p0, x, h1, h2, h3, h5, h6, h8⟩ hg hr =>
  have hr' := fun r e => (hr r e).2
  ⟨hc, p0, x, h1, h2, h3, bxOP h5 hg hr', bx2OP h6 hg hr', h8.grown hg h8.size (fun r e => Nat.le_trans h (hr r e).1)⟩
theorem PIS.setS {w : World} {base R Q L A bs : Nat} (h : w.heap.size ≤ bs) (hb : bs < base) (hR : R ≠ bs) (hQ : Q ≠ bs) (hL : L ≠ bs) (hA : A ≠ bs) (pre : List ByteArray) (U V : World) : PIS w base R Q L A bs pre U → setS bs U V → PIS w base R Q L A bs pre V := by
  rintro ⟨v, x, q⟩ ⟨y, rfl⟩
  exact ⟨v, y, bx_setP q.l hL, q.li.setC hb, q.ok, bx_setP q.a hA, bx_setP q.r hR, bx2_setP q.q hQ, q.b.set _, q.w.setCell (p := ⟨bs, 0, none⟩) h _, by have := q.z; simpa [World.setCell] using this⟩

set_option maxRecDepth 100000 in
set_option maxHeartbeats 8000000 in
theorem pread_any (s : ByteArray) (w : World) (hs : s.size ≤ 65536) (hT : P10 w) (hE : EV w) :
    Calls Tryd.prog 17 #[.string s] w fun e w' => ∃ v a b, e = .returned (.tuple #[v, .agg #[.int .i64 (a : Nat), .int .i64 (b : Nat)]]) ∧ RdP s v a b w' ∧ Below w.heap.size w w' := by
  have TT := hide (And.intro hT hE)
  clear hT hE
  refine callsC (n := 3) Tryd.func17 rfl ?_
  simp only [Tryd.ntmps17, List.size_toArray, List.length_cons, List.length_nil, Nat.reduceAdd, Nat.reduceSub, Array.replicate_succ, Array.replicate_zero, List.push_toArray, List.append_toArray, List.nil_append, List.cons_append]
  go_upto_region 1 with fail
  have hb1 := below_alloc w (.cells #[.slice none 0 0] 39)
  have hb2 := below_alloc (w.alloc (.cells #[.slice none 0 0] 39)) (.cells #[.int .i64 0, .int .i64 0] 33)
  have BR := hide (boxed_step (Boxed.new w 39 (.slice none 0 0)) hb2)
  have BQ := hide (Box2.new (w.alloc (.cells #[.slice none 0 0] 39)) 33 (.int .i64 0) (.int .i64 0))
  rw [World.size_alloc] at BQ
  have HB := hide (hb1.trans (hb2.mono hb1.size))
  clear hb1 hb2
  generalize (w.alloc (.cells #[.slice none 0 0] 39)).alloc (.cells #[.int .i64 0, .int .i64 0] 33) = w1 at *
  obtain ⟨R, hR⟩ : ∃ R, R = w.heap.size := ⟨_, rfl⟩
  obtain ⟨Q, hQ⟩ : ∃ Q, Q = R + 1 := ⟨_, rfl⟩
  have GR := hide hR
  have GQ := hide hQ
  rw [← hR, ← hQ] at BQ
  rw [← hR] at BR
  rw [← hR, ← hQ]
  clear hR hQ
  have GB := hide BQ.out.lt
  have hl : ¬ (65536 : Int) < (s.size : Int) := by omega
  by_cases h0 : s.size = 0
  · have he : s.toList.isEmpty = true := by rw [str_emptyP, h0]; rfl
    have c0 := BR.out.cell
    have c1 := BQ.out.cell0
    have c2 := BQ.out.cell1
    have f0 := BR.out.frozen
    have f1 := BQ.out.free 0
    have f2 := BQ.out.free 1
    have nRQ : R ≠ Q := by have := GQ.out; omega
    go_wp2
    show LeavesInM _ _ _ _ _ _ _ _ _
    exact ⟨_, res_bs rfl _ _ R Q _ _ _ rfl (bx_setP (bx_setP (BR.out.set _) (by have := GQ.out; omega)) (by have := GQ.out; omega)) rfl (bx2_putP (bx2_setP BQ.out (by have := GQ.out; omega)) _ _), _, 0, 0, rfl, .inl ⟨h0, rfl, rfl, rfl⟩, ((HB.out.setCell (p := ⟨R, 0, none⟩) (by rw [GR.out]; exact Nat.le_refl _) _).setCell (p := ⟨Q, 0, none⟩) (by rw [GQ.out, GR.out]; exact Nat.le_succ _) _).setCell (p := ⟨Q, 1, none⟩) (by rw [GQ.out, GR.out]; exact Nat.le_succ _) _⟩
  · have he : s.toList.isEmpty = false := by rw [str_emptyP]; simp [h0]
    go_wp2_with fail
    have b1 := below_alloc w1 (.cells #[.slice none 0 0] 39)
    have b2 := below_alloc (w1.alloc (.cells #[.slice none 0 0] 39)) (.cells #[.int .i64 0] 3)
    have BL := hide (boxed_step (Boxed.new w1 39 (.slice none 0 0)) b2)
    have BA := hide (Boxed.new (w1.alloc (.cells #[.slice none 0 0] 39)) 3 (.int .i64 0))
    replace BR := hide (boxed_step (boxed_step BR.out b1) b2)
    replace BQ := hide ((BQ.out.step b1).step b2)
    have G1 : Hid (Q < w1.heap.size) := hide GB.out
    replace HB := hide (HB.out.trans ((b1.trans (b2.mono b1.size)).mono HB.out.size))
    simp only [World.size_alloc] at BA
    clear b1 b2
    generalize (w1.alloc (.cells #[.slice none 0 0] 39)).alloc (.cells #[.int .i64 0] 3) = w4 at *
    obtain ⟨L, hL⟩ : ∃ L, L = w1.heap.size := ⟨_, rfl⟩
    obtain ⟨A, hA⟩ : ∃ A, A = L + 1 := ⟨_, rfl⟩
    rw [← hL, ← hA] at BA
    rw [← hL] at BL G1
    rw [← hL, ← hA]
    have NA := hide hA
    clear hL hA
    refine (seq_any s ⟨#[32]⟩ _).mono ?_
    rintro e w5 ⟨bs, rfl, hbs, x1, x2, x3, hb⟩
    have X1 := hide x1
    have X2 := hide x2
    have X3 := hide x3
    have NB : Hid (A < bs) := hide (Nat.lt_of_lt_of_le BA.out.lt hbs)
    replace BR := hide (boxed_step BR.out hb)
    replace BQ := hide (BQ.out.step hb)
    replace BL := hide (boxed_step BL.out hb)
    replace BA := hide (boxed_step BA.out hb)
    replace HB := hide (HB.out.trans (hb.mono HB.out.size))
    clear x1 x2 x3 hbs hb
    go_wp2_with fail
    refine (wpIn_wide (n := 3)).1 ?_
    have GW : Hid (w.heap.size ≤ R) := hide (Nat.le_of_eq GR.out.symm)
    have LB : Hid (bs + 3 ≤ w5.heap.size) := hide X3.out.lt
    have NN : Hid (R < Q ∧ Q < L ∧ L < A ∧ A < bs ∧ bs + 3 ≤ w5.heap.size) := hide ⟨by have := GQ.out; omega, G1.out, by have := NA.out; omega, NB.out, LB.out⟩
    refine rangeC (by omega) (gf := 87) (lb := #[.pointer (some ⟨bs + 1, 0, none⟩), .pointer (some ⟨bs, 0, none⟩), .pointer (some ⟨bs + 2, 0, none⟩)]) rfl (enters_of Tryd.func87 (by kernel_rfl) rfl)
      (spl_yields 2 bs 32 s (by omega) w5 X1.out X2.out X3.out) rfl KC.trans (fun W o hW => ⟨fun i h1 h2 => World.putObj_heap_other (by have := LB.out; omega), by simp [World.putObj]⟩) (Below.refl _ _) (fun _ => rfl)
      (PIS w w5.heap.size R Q L A bs) (PXS w R Q) (PIS.own HB.out.size) (PXS.own HB.out.size)
      (PIS.setS (by have := NN.out; have := GW.out; omega) (by have := NN.out; omega) (by have := NN.out; omega) (by have := NN.out; omega) (by have := NN.out; omega) (by have := NN.out; omega))
      (fun U V ⟨y, e⟩ k hk => by subst e; exact Below.heap_setCell _ _ _ _ (by show k ≠ bs; have := NN.out; omega))
      ⟨_, s, BL.out, OwnP.none _ _, (fun x hx => by cases hx), BA.out, BR.out, BQ.out, X1.out, HB.out, Nat.le_refl _⟩
      (fun x a' _ => a' = { tmps := #[.string s, undef, .pointer (some ⟨R, 0, none⟩), .pointer (some ⟨Q, 0, none⟩), .pointer (some ⟨L, 0, none⟩), .pointer (some ⟨A, 0, none⟩), .string x, undef, undef, .bool false, .string s, .int .i64 (s.size : Nat), .bool false, undef, .bool false, .string s, .bool false, undef, .string s, .func (.func 87) #[] #[.pointer (some ⟨bs + 1, 0, none⟩), .pointer (some ⟨bs, 0, none⟩), .pointer (some ⟨bs + 2, 0, none⟩)], .string x, undef, undef, undef, undef, undef, undef, undef, undef, undef, undef, undef, undef, undef, undef, undef, undef, undef, undef, undef, undef], defers := [] }) (fun x a' => ownFrom_pure _ _) ?asg ?bdy ?dn ?st
    case asg =>
      intro l pre x W K hI hK
      unfold strE
      simp only [List.zip_toArray, List.zip_cons_cons, List.zip_nil_right, List.foldl_toArray', List.size_toArray, List.length_cons, List.length_nil, List.foldl_cons, List.foldl_nil, List.setIfInBounds_toArray, List.set_cons_succ, List.set_cons_zero]
      gi_wp2
      exact hK _ _ (KeepsFrom.refl _ _) ⟨fun _ _ _ => rfl, Nat.le_refl _⟩ hI rfl
    case bdy =>
      rintro l pre x a' Z ⟨v, y, q⟩ rfl hlen
      have PQ := hide q
      have HX : Hid (x.size ≤ 65536) := hide (Nat.le_trans (splB_size (hlen.subset (by simp))) hs)
      have HP := hide hlen
      clear q hlen
      have TB : Hid (totP pre + x.size + 1 ≤ 70000) := hide (by have h1 := tot_preP HP.out; rw [tot_appP, tot_splBP] at h1; omega)
      gi_wp2_with fail
      refine ⟨trivial, (CallsIn.inRound l (callsIn_wide.2 (rp_all x Z HX.out (TT.out.1.below PQ.out.w) (TT.out.2.below PQ.out.w)))).mono ?_⟩
      rintro e Z2 ⟨hrp, hb⟩
      have RK := hide (Rn.below (B := w5.heap.size) (lo := bs) (hi := bs + 3) hb (Nat.le_trans NN.out.2.2.2.2 PQ.out.z))
      replace PQ := hide (PQ.out.below hb)
      clear hb
      rcases hrp with ⟨a, b, hrd, rfl⟩ | ⟨hrd, rfl⟩
      · have RD := hide hrd
        clear hrd
        gi_upto_region 10 with fail
        have b1 := below_alloc Z2 (.cells #[.int .i64 a, .int .i64 b] 43)
        have PB := hide (Box2.new Z2 43 (.int .i64 a) (.int .i64 b))
        replace RK := hide (RK.out.trans (Rn.below b1 (Nat.le_trans NN.out.2.2.2.2 PQ.out.z)))
        replace PQ := hide (PQ.out.below b1)
        clear b1
        generalize Z2.alloc (.cells #[.int .i64 a, .int .i64 b] 43) = Z3 at *
        generalize Z2.heap.size = gx at *
        obtain ⟨i0, hi0, hz0, hz1, hz2⟩ := info_parts Tryd.infoPtA
        have al := below_alloc Z3 (.cells #[.int .i64 a, .int .i64 b] 43)
        have TMP := hide (Box2.new Z3 43 (.int .i64 a) (.int .i64 b))
        have QA := hide (PQ.out.below al)
        have RA := hide (RK.out.trans (Rn.below (B := w5.heap.size) (lo := bs) (hi := bs + 3) al (Nat.le_trans NN.out.2.2.2.2 PQ.out.z)))
        have LL : Hid ((ptsOf pre).length ≤ 70000) := hide (by rw [ptsOf_len]; have h1 := HP.out.length_le; have h2 := spl_fewP 32 s; rw [List.length_append, List.length_singleton] at h1; omega)
        have cl := PQ.out.l.cell
        have d0 := PB.out.cell0
        have d1 := PB.out.cell1
        have tb := TB.out
        clear al
        gi_wp2_with (gi_at_builtin; refine wpListIn_append_own _ rfl _ _ 39 rfl w5.heap.size 43 i0 (.agg #[.int .i64 0, .int .i64 0]) 2 16 Tryd.underlying39 hi0 hz0 hz1 hz2 rfl (by decide) _ _ _ rfl QA.out.li ⟨Z3.heap.size, 0, none⟩ 1 _ [.int .i64 a, .int .i64 b] rfl rfl (two_cells TMP.out) (by intro u hu; simp only [List.mem_cons, List.not_mem_nil, or_false] at hu; rcases hu with rfl | rfl <;> rfl) (by have := LL.out; unfold maxLen; omega) (by have := LL.out; omega) QA.out.z ?_; intro v' Z5 hown hgrow hnil; have OW : Hid (OwnP Z5 w5.heap.size v' (ptsOf pre ++ [(a, b)])) := hide (own_snoc hown); have GRW := hide hgrow; have cl5 := (show Boxed Z5 L _ _ from QA.out.kept hgrow (by have := NN.out; omega) QA.out.l).cell; have fl5 := (show Boxed Z5 L _ _ from QA.out.kept hgrow (by have := NN.out; omega) QA.out.l).frozen; have ca5 := (show Boxed Z5 A _ _ from QA.out.kept hgrow (by have := NN.out; omega) QA.out.a).cell; have fa5 := (show Boxed Z5 A _ _ from QA.out.kept hgrow (by have := NN.out; omega) QA.out.a).frozen; have nLA : L ≠ A := (by have := NN.out; omega); obtain ⟨va', vc', hv', _⟩ := OW.out.pts; rw [List.length_append, List.length_singleton] at hv'; subst hv'; clear hown hgrow hnil)
        have hcast : ((totP pre : Int) + ((x.size : Int) + 1)) = ((totP pre + (x.size + 1) : Nat) : Int) := by omega
        rw [hcast]
        have RN := RA.out.trans ((Rn.grown (B := w5.heap.size) GRW.out (fun r e => ⟨.inr (by have := (QA.out.li.ge e).1; have := NN.out; omega), (QA.out.li.ge e).2⟩) (Nat.le_trans NN.out.2.2.2.2 QA.out.z)).trans ((Rn.set (b := L) (o := 0) _ (.slice va' ((ptsOf pre).length + 1) vc') (.inl (by have := NN.out; omega))).trans (Rn.set (b := A) (o := 0) _ (.int .i64 ((totP pre + (x.size + 1) : Nat) : Int)) (.inl (by have := NN.out; omega)))))
        exact ⟨RN.kf, ⟨RN.kc, RN.kf.size⟩, _, y, QA.out.next RD.out OW.out GRW.out NN.out GW.out HB.out.size⟩
      · have RD := hide hrd
        clear hrd
        gi_upto_region 10 with fail
        have b1 := below_alloc Z2 (.cells #[.int .i64 0, .int .i64 0] 43)
        replace RK := hide (RK.out.trans (Rn.below b1 (Nat.le_trans NN.out.2.2.2.2 PQ.out.z)))
        replace PQ := hide (PQ.out.below b1)
        clear b1
        generalize Z2.alloc (.cells #[.int .i64 0, .int .i64 0] 43) = Z3 at *
        generalize Z2.heap.size = gx at *
        have ca := PQ.out.a.cell
        have c0 := PQ.out.r.cell
        have c1 := PQ.out.q.cell0
        have c2 := PQ.out.q.cell1
        have f0 := PQ.out.r.frozen
        have f1 := PQ.out.q.free 0
        have f2 := PQ.out.q.free 1
        have nRA : R ≠ A := by have := NN.out; omega
        have nRQ : R ≠ Q := by have := NN.out; omega
        have nQA : Q ≠ A := by have := NN.out; omega
        gi_wp2
        gi_region
        all_goals
          gi_wp2
          exact ⟨keeps_drew (RK.out.kf.trans ((((KeepsOthers.setCell _ _ _).trans (KeepsOthers.setCell _ _ _)).trans (KeepsOthers.setCell _ _ _)).from _)), rfl, pre, x, rfl, PQ.out.ok, RD.out, bx_setP (bx_setP (PQ.out.r.set _) (by have := NN.out; omega)) (by have := NN.out; omega), bx2_putP (bx2_setP PQ.out.q (by have := NN.out; omega)) _ _,
            (((PQ.out.w.setCell (p := ⟨R, 0, none⟩) GW.out _).setCell (p := ⟨Q, 0, none⟩) (by show w.heap.size ≤ Q; have := NN.out; have := GW.out; omega) _).setCell (p := ⟨Q, 1, none⟩) (by show w.heap.size ≤ Q; have := NN.out; have := GW.out; omega) _).drew⟩
    case dn =>
      rintro D xs Z hD rfl ⟨v, y, q⟩ hK
      have PQ := hide q
      have HK := hide hK
      have HD := hide hD
      obtain ⟨va, vc, hv, _⟩ := q.li.pts
      clear q hK hD
      subst hv
      simp only [Exit.inBlock, Exit.then]
      have cl := PQ.out.l.cell
      have c0 := PQ.out.r.cell
      have c1 := PQ.out.q.cell0
      have c2 := PQ.out.q.cell1
      have f0 := PQ.out.r.frozen
      have f1 := PQ.out.q.free 0
      have f2 := PQ.out.q.free 1
      have nRL : R ≠ L := by have := NN.out; omega
      have nRQ : R ≠ Q := by have := NN.out; omega
      go_wp2
      refine leavesC (B := w5.heap.size) (I := fun (_ : Unit) V => Boxed V R 39 (.slice va (ptsOf (splB 32 s)).length vc) ∧ Box2 V Q 33 (.int .i64 0) (.int .i64 0) ∧ OwnP V w5.heap.size (.slice va (ptsOf (splB 32 s)).length vc) (ptsOf (splB 32 s)) ∧ Below w.heap.size w V)
        (fun _ X Y row q hg hr => ⟨bxOP q.1 hg (fun r e => (hr r e).2), bx2OP q.2.1 hg (fun r e => (hr r e).2), q.2.2.1.grow hg (fun r e => (hr r e).2), q.2.2.2.grown hg q.2.2.2.size (fun r e => Nat.le_trans HB.out.size (hr r e).1)⟩) ()
        (fun V q => ⟨_, res_bs rfl _ _ R Q _ _ _ rfl q.1 rfl q.2.1, _, 0, 0, rfl, .inr (.inl ⟨h0, PQ.out.ok, q.2.2.1.pts, rfl, rfl⟩), q.2.2.2⟩) [D] _ (MarksC.one HD.out ?_)
        ⟨bx_setP (bx_setP (PQ.out.r.set _) (by have := NN.out; omega)) (by have := NN.out; omega), bx2_putP (bx2_setP PQ.out.q (by have := NN.out; omega)) _ _, ((PQ.out.li.setC (by have := NN.out; omega)).setC (by have := NN.out; omega)).setC (by have := NN.out; omega), (((PQ.out.w.setCell (p := ⟨R, 0, none⟩) GW.out _).setCell (p := ⟨Q, 0, none⟩) (by show w.heap.size ≤ Q; have := NN.out; have := GW.out; omega) _).setCell (p := ⟨Q, 1, none⟩) (by show w.heap.size ≤ Q; have := NN.out; have := GW.out; omega) _)⟩
      exact (Below.heap_setCell _ _ _ _ (by show D ≠ Q; have := NN.out; have := HD.out; omega)).trans ((Below.heap_setCell _ _ _ _ (by show D ≠ Q; have := NN.out; have := HD.out; omega)).trans ((Below.heap_setCell _ _ _ _ (by show D ≠ R; have := NN.out; have := HD.out; omega)).trans HK.out))
    case st =>
      rintro D c pre Z hD hp ⟨rfl, pre0, x, rfl, hrd, hx, hr, hq, hw⟩ hK
      refine wpIn_ret ?_
      refine leavesC (B := w5.heap.size) (I := fun (_ : Unit) V => Boxed V R 39 (.slice none 0 0) ∧ Box2 V Q 33 (.int .i64 6) (.int .i64 (totP pre0 : Nat)) ∧ Below w.heap.size w V)
        (fun _ X Y row q hg hr => ⟨bxOP q.1 hg (fun r e => (hr r e).2), bx2OP q.2.1 hg (fun r e => (hr r e).2), q.2.2.grown hg q.2.2.size (fun r e => Nat.le_trans HB.out.size (hr r e).1)⟩) ()
        (fun V q => ⟨_, res_bs rfl _ _ R Q _ _ _ rfl q.1 rfl q.2.1, _, 6, totP pre0, rfl, .inr (.inr ⟨h0, rfl, pre0, x, hp, hrd, hx, rfl, rfl⟩), q.2.2⟩) [D] _ (MarksC.one hD hK)
        ⟨hr, hq, hw⟩
end Go.Proofs.YtenmogmdijnlhaaDoor

namespace Go.Proofs.YtenmogmdijnlhaaDoor
open Go.RowKit

theorem in_of {a b : Int} (h : -16 ≤ a ∧ a ≤ 16) (k : -16 ≤ b ∧ b ≤ 16) : inB a b = true := by
  unfold inB sm
  simp [h, k]
/-- no point that is in, the first coordinate below a, or it a and the second below b, has the text -/
def NotYet (s : ByteArray) (a b : Int) : Prop := ∀ x y : Int, inB x y = true → (x < a ∨ (x = a ∧ y < b)) → ptx x y ≠ s
theorem NotYet.all {s : ByteArray} (h : NotYet s 17 (-16)) : rpP s = none := by
  cases hr : rpP s with
  | none => rfl
  | some p =>
    obtain ⟨a, b⟩ := p
    obtain ⟨h1, h2⟩ := rp_told hr
    exact absurd h2 (h a b h1 (.inl (by have := in_yes h1; omega)))
theorem NotYet.next {s : ByteArray} {a b : Int} (h : NotYet s a b) (hn : ptx a b ≠ s) : NotYet s a (b + 1) := by
  intro x y hi hxy
  rcases hxy with hx | ⟨rfl, hy⟩
  · exact h x y hi (.inl hx)
  · by_cases e : y = b
    · rw [e]; exact hn
    · exact h x y hi (.inr ⟨rfl, by omega⟩)
theorem NotYet.turn {s : ByteArray} {a : Int} (h : NotYet s a 17) : NotYet s (a + 1) (-16) := by
  intro x y hi hxy
  have hin := in_yes hi
  by_cases e : x = a
  · exact h x y hi (.inr ⟨e, by omega⟩)
  · exact h x y hi (.inl (by rcases hxy with hx | ⟨_, hy⟩ <;> omega))
theorem rp_short {s : ByteArray} (h : 9 < s.size ∨ s.size = 0) : rpP s = none := by
  cases hr : rpP s with
  | none => rfl
  | some p =>
    obtain ⟨a, b⟩ := p
    obtain ⟨h1, h2⟩ := rp_told hr
    have := ptx_in h1
    rw [h2] at this
    omega
theorem str_emptyF (s : ByteArray) : s.toList.isEmpty = decide (s.size = 0) := by
  rw [ByteArray.toList_eq]
  cases h : s.data.toList with
  | nil => have : s.size = 0 := by show s.data.size = 0; rw [← Array.length_toList, h]; rfl
           simp [this]
  | cons a l => have : s.size ≠ 0 := by show s.data.size ≠ 0; rw [← Array.length_toList, h]; simp
                simp [this]

set_option maxRecDepth 100000 in
set_option maxHeartbeats 4000000 in
theorem rfind_any (s : ByteArray) (w : World) (hs : s.size ≤ 4000000000) :
    Calls Tryd.prog 35 #[.string s] w fun e w' => RpP s e ∧ Below w.heap.size w w' := by
  have X0 := hide (Box2.new w 43 (.int .i64 0) (.int .i64 0))
  have HB := hide (below_alloc w (.cells #[.int .i64 0, .int .i64 0] 43))
  go_enter Tryd.func35, Tryd.ntmps35
  go_upto_region 1 with fail
  generalize w.alloc (.cells #[.int .i64 0, .int .i64 0] 43) = w0 at *
  by_cases hl : 9 < s.size
  · have d0 := X0.out.cell0
    have d1 := X0.out.cell1
    have f0 := X0.out.free 0
    have f1 := X0.out.free 1
    have hl' : (9 : Int) < (s.size : Int) := by omega
    go_wp2
    refine ret_pte rfl w.heap.size _ _ rfl ((X0.out.set0 _).set1 _) rfl ?_
    exact ⟨.inr ⟨rp_short (.inl hl), rfl⟩, (HB.out.setCell (p := ⟨w.heap.size, 0, none⟩) (Nat.le_refl _) _).setCell (p := ⟨w.heap.size, 1, none⟩) (Nat.le_refl _) _⟩
  · have hl' : ¬ (9 : Int) < (s.size : Int) := by omega
    by_cases h0 : s.size = 0
    · have he : s.toList.isEmpty = true := by rw [str_emptyF, h0]; rfl
      have d0 := X0.out.cell0
      have d1 := X0.out.cell1
      have f0 := X0.out.free 0
      have f1 := X0.out.free 1
      go_wp2
      refine ret_pte rfl w.heap.size _ _ rfl ((X0.out.set0 _).set1 _) rfl ?_
      exact ⟨.inr ⟨rp_short (.inr h0), rfl⟩, (HB.out.setCell (p := ⟨w.heap.size, 0, none⟩) (Nat.le_refl _) _).setCell (p := ⟨w.heap.size, 1, none⟩) (Nat.le_refl _) _⟩
    · have he : s.toList.isEmpty = false := by rw [str_emptyF]; simp [h0]
      go_wp2
      clear he
      go_loopw [4, 5] (fun av _ wr => ∃ a : Int, -16 ≤ a ∧ a ≤ 17 ∧ av = .int .i64 a ∧ NotYet s a (-16) ∧ Below w.heap.size w wr ∧ Box2 wr w.heap.size 43 (.int .i64 0) (.int .i64 0)) (fun av _ _ => (17 - intOf av).toNat)
      case atStart => exact ⟨-16, by omega, by omega, rfl, fun x y hi hxy => absurd (in_yes hi) (by rcases hxy with h | h <;> omega), HB.out, X0.out⟩
      case round =>
        clear X0 HB
        obtain ⟨a, ha, ha', rfl, hn, hb, hx⟩ := hrel
        have HN := hide hn
        have HB := hide hb
        have X0 := hide hx
        clear hn hb hx
        by_cases hlt : a ≤ 16
        · go_wp2
          go_loopw [5] (fun bv wr => ∃ b : Int, -16 ≤ b ∧ b ≤ 17 ∧ bv = .int .i64 b ∧ NotYet s a b ∧ Below w.heap.size w wr ∧ Box2 wr w.heap.size 43 (.int .i64 0) (.int .i64 0)) (fun bv _ => (17 - intOf bv).toNat)
          case atStart => exact ⟨-16, by omega, by omega, rfl, HN.out, HB.out, X0.out⟩
          case round =>
            clear X0 HB HN
            obtain ⟨b, hb1, hb2, rfl, hn, hb, hx⟩ := hrel
            have HN := hide hn
            have HB := hide hb
            have X0 := hide hx
            clear hn hb hx
            by_cases hlb : b ≤ 16
            · go_wp2_with fail
              refine (rptx_any a b _ (by omega) (by omega) (by omega) (by omega)).mono ?_
              rintro e w2 ⟨rfl, hb⟩
              replace X0 := hide (X0.out.step hb)
              replace HB := hide (HB.out.trans (hb.mono HB.out.size))
              clear hb
              by_cases hpx : ptx a b = s
              · have RN : Hid (rpP s = some (a, b)) := hide (by rw [← hpx]; exact rp_ptx (in_of ⟨ha, hlt⟩ ⟨hb1, hlb⟩))
                rw [hpx]
                clear hpx HN
                have d0 := X0.out.cell0
                have d1 := X0.out.cell1
                have f0 := X0.out.free 0
                have f1 := X0.out.free 1
                go_wp2
                refine ret_pte rfl w.heap.size _ _ rfl ((X0.out.set0 _).set1 _) rfl ?_
                exact ⟨.inl ⟨_, _, RN.out, rfl⟩, (HB.out.setCell (p := ⟨w.heap.size, 0, none⟩) (Nat.le_refl _) _).setCell (p := ⟨w.heap.size, 1, none⟩) (Nat.le_refl _) _⟩
              · have HN2 := hide (HN.out.next hpx)
                generalize ptx a b = tx at *
                have nx := ba_ne hpx
                clear hpx HN
                go_wp2
                go_roundw
                case rel => exact ⟨b + 1, by omega, by omega, rfl, HN2.out, HB.out, X0.out⟩
                case measure => simp [intOf]; omega
            · have e : b = 17 := by omega
              subst e
              have HN2 := hide HN.out.turn
              clear HN
              go_wp2
              go_roundw
              case rel => exact ⟨a + 1, by omega, by omega, rfl, HN2.out, HB.out, X0.out⟩
              case measure => simp [intOf]; omega
        · have e : a = 17 := by omega
          subst e
          have RN := hide HN.out.all
          have d0 := X0.out.cell0
          have d1 := X0.out.cell1
          have f0 := X0.out.free 0
          have f1 := X0.out.free 1
          clear HN
          go_wp2
          refine ret_pte rfl w.heap.size _ _ rfl ((X0.out.set0 _).set1 _) rfl ?_
          exact ⟨.inr ⟨RN.out, rfl⟩, (HB.out.setCell (p := ⟨w.heap.size, 0, none⟩) (Nat.le_refl _) _).setCell (p := ⟨w.heap.size, 1, none⟩) (Nat.le_refl _) _⟩
end Go.Proofs.YtenmogmdijnlhaaDoor

namespace Go.Proofs.YtenmogmdijnlhaaDoor
open Go.RowKit

theorem bl_getP (s : ByteArray) (j : Nat) (h : j < s.size) : ∃ c, (bl s)[j]? = some c ∧ c.toNat = bt s j := by
  refine ⟨s[j], ?_, bt_get s j h⟩
  unfold bl
  rw [List.getElem?_eq_getElem (by rw [← bl_len] at h; exact h)]
  rfl
theorem bl_memP {s : ByteArray} {a t : Nat} (h2 : t ≤ s.size) {c : UInt8} (h : c ∈ bl (s.extract a t)) : ∃ j, a ≤ j ∧ j < t ∧ bt s j = c.toNat := by
  rw [bl_ext] at h
  obtain ⟨i, hi⟩ := List.getElem?_of_mem h
  rw [List.getElem?_drop] at hi
  have hlt := (List.getElem?_eq_some_iff.1 hi).1
  rw [List.length_take, bl_len] at hlt
  rw [List.getElem?_take, if_pos (by omega)] at hi
  obtain ⟨c', h1, h3⟩ := bl_getP s (a + i) (by omega)
  rw [h1] at hi
  cases hi
  exact ⟨a + i, by omega, by omega, h3.symm⟩
/-- no blank between -/
def ClearP (s : ByteArray) (a t : Nat) : Prop := ∀ j, a ≤ j → j < t → bt s j ≠ 32
theorem ClearP.no {s : ByteArray} {a t : Nat} (h : ClearP s a t) (ht : t ≤ s.size) : (32 : UInt8) ∉ bl (s.extract a t) := by
  intro hm
  obtain ⟨j, h1, h2, h3⟩ := bl_memP ht hm
  exact h j h1 h2 h3
theorem ClearP.more {s : ByteArray} {a t : Nat} (h : ClearP s a t) (hb : bt s t ≠ 32) : ClearP s a (t + 1) := by
  intro j h1 h2
  by_cases e : j = t
  · rw [e]; exact hb
  · exact h j h1 (by omega)
theorem pieces_end {s : ByteArray} {a : Nat} (hc : ClearP s a s.size) : splB 32 (s.extract a s.size) = [s.extract a s.size] := splB_none (hc.no (Nat.le_refl _))
theorem pieces_next {s : ByteArray} {a t : Nat} (h1 : a ≤ t) (hc : ClearP s a t) (h : t < s.size) (hb : bt s t = 32) : splB 32 (s.extract a s.size) = s.extract a t :: splB 32 (s.extract (t + 1) s.size) := by
  obtain ⟨c, h2, h3⟩ := bl_getP s t h
  have e : c = 32 := UInt8.toNat_inj.1 (by rw [h3, hb]; rfl)
  subst e
  have hd : (bl s).drop a = bl (s.extract a t) ++ 32 :: (bl s).drop (t + 1) := by
    rw [bl_ext]
    conv => lhs; rw [← List.take_append_drop t (bl s)]
    rw [List.drop_append_of_le_length (by rw [List.length_take, bl_len]; omega), List.drop_eq_getElem_cons (i := t) (by rw [bl_len]; exact h), (List.getElem?_eq_some_iff.1 h2).2]
  unfold splB
  have e1 : bl (s.extract a s.size) = (bl s).drop a := by rw [bl_ext, ← bl_len, List.take_length]
  have e2 : bl (s.extract (t + 1) s.size) = (bl s).drop (t + 1) := by rw [bl_ext, ← bl_len, List.take_length]
  rw [e1, e2, hd, spl_at (hc.no (by omega)), List.map_cons, mkB_bl]
/-- what is read -/
def RfP (s : ByteArray) (v : Value) (p : Int) (w : World) : Prop :=
  (s.size = 0 ∧ v = .slice none 0 0 ∧ p = -1) ∨
  (s.size ≠ 0 ∧ PDone (splB 32 s) ∧ PtsAt w v (ptsOf (splB 32 s)) ∧ p = -1) ∨
  (s.size ≠ 0 ∧ ∃ pre x, pre ++ [x] <+: splB 32 s ∧ PDone pre ∧ rpP x = none ∧ p = (totP pre : Int))
/-- what stands while it is read: the pieces ahead, where the present one begins, how far it is gone through -/
def RfI (s : ByteArray) (pre : List ByteArray) (f i : Nat) : Prop :=
  (i ≤ s.size ∧ f ≤ i ∧ splB 32 s = pre ++ splB 32 (s.extract f s.size) ∧ ClearP s f i ∧ totP pre = f) ∨ (i = s.size + 1 ∧ f = s.size + 1 ∧ pre = splB 32 s)
theorem RfI.few {s : ByteArray} {pre : List ByteArray} {f i : Nat} (h : RfI s pre f i) : pre.length ≤ s.size + 1 := by
  rcases h with ⟨_, _, h, _⟩ | ⟨_, _, rfl⟩
  · have := spl_fewP 32 s
    rw [h, List.length_append] at this
    omega
  · exact spl_fewP 32 s

set_option maxRecDepth 100000 in
set_option maxHeartbeats 8000000 in
theorem rread6_any (s : ByteArray) (w : World) (hs : s.size ≤ 65536) :
    Calls Tryd.prog 18 #[.string s] w fun e w' => ∃ v p, e = .returned (.tuple #[v, .int .i64 p]) ∧ RfP s v p w' ∧ Below w.heap.size w w' := by
  obtain ⟨i0, hi0, hz0, hz1, hz2⟩ := info_parts Tryd.infoPtA
  have TR := hide (And.intro hi0 (And.intro hz0 (And.intro hz1 hz2)))
  clear hi0 hz0 hz1 hz2
  by_cases h0 : s.size = 0
  · have he : s.toList.isEmpty = true := by rw [str_emptyP, h0]; rfl
    go_enter Tryd.func18, Tryd.ntmps18
    go_wp2
    go_ret2
    exact ⟨_, _, rfl, .inl ⟨h0, rfl, rfl⟩, Below.refl _ _⟩
  · have he : s.toList.isEmpty = false := by rw [str_emptyP]; simp [h0]
    go_enter Tryd.func18, Tryd.ntmps18
    go_wp2
    clear he
    go_loopw [4, 5, 6, 7, 8] (fun ov fv iv _ _ wr => ∃ (pre : List ByteArray) (f i : Nat), RfI s pre f i ∧ i ≤ s.size + 1 ∧ f ≤ i ∧ fv = .int .i64 f ∧ iv = .int .i64 i ∧ PDone pre ∧ OwnP wr w.heap.size ov (ptsOf pre) ∧ Below w.heap.size w wr) (fun _ _ iv _ _ _ => s.size + 1 - (intOf iv).toNat)
    case atStart => exact ⟨[], 0, 0, .inl ⟨Nat.zero_le _, Nat.zero_le _, by rw [show s.extract 0 s.size = s from by simp]; rfl, (fun j h1 h2 => absurd h2 (by omega)), rfl⟩, by omega, Nat.le_refl _, rfl, rfl, (fun x hx => by cases hx), OwnP.none _ _, Below.refl _ _⟩
    case round =>
      obtain ⟨pre, f, i, hi, hm, hfm, rfl, rfl, hd, ho, hb⟩ := hrel
      have HI := hide hi
      have HD := hide hd
      have HB := hide hb
      have OO := hide ho
      clear hi hd hb ho
      by_cases hle : i ≤ s.size
      · have HC : Hid (splB 32 s = pre ++ splB 32 (s.extract f s.size) ∧ ClearP s f i ∧ totP pre = f) := hide (by rcases HI.out with ⟨_, _, h1, h2, h3⟩ | ⟨h, _⟩; exact ⟨h1, h2, h3⟩; omega)
        have LL : Hid (pre.length ≤ 65537) := hide (by have := HI.out.few; omega)
        by_cases hlt : i < s.size
        · have hbt0 := bt_get s i hlt
          by_cases hbt : bt s i = 32
          · have q1 : (((bt s i : Nat) : Int) != 32) = false := by rw [hbt]; rfl
            have HN : Hid (RfI s (pre ++ [s.extract f i]) (i + 1) (i + 1)) := hide (.inl ⟨by omega, Nat.le_refl _, by rw [HC.out.1, pieces_next hfm HC.out.2.1 hlt hbt]; simp, (fun j h1 h2 => absurd h2 (by omega)), by rw [tot_appP, ByteArray.size_extract, HC.out.2.2]; omega⟩)
            have HX : Hid (pre ++ [s.extract f i] <+: splB 32 s) := hide ⟨splB 32 (s.extract (i + 1) s.size), by rw [HC.out.1, pieces_next hfm HC.out.2.1 hlt hbt]; simp⟩
            have hlt' : (i : Int) < (s.size : Int) := by omega
            clear hbt
            have hfs : f ≤ s.size := by omega
            go_wp2_with fail
            refine (rfind_any (s.extract f i) _ (by rw [ByteArray.size_extract]; omega)).mono ?_
            rintro e w2 ⟨hrp, hb⟩
            replace HB := hide (HB.out.trans (hb.mono HB.out.size))
            replace OO := hide (OO.out.below hb)
            clear hb
            rcases hrp with ⟨x, y, hrd, rfl⟩ | ⟨hrd, rfl⟩
            · have RD := hide hrd
              clear hrd
              go_upto_region 10 with fail
              have b1 := below_alloc w2 (.cells #[.int .i64 x, .int .i64 y] 43)
              have PB := hide (Box2.new w2 43 (.int .i64 x) (.int .i64 y))
              replace OO := hide (OO.out.below b1)
              replace HB := hide (HB.out.trans (b1.mono HB.out.size))
              clear b1
              generalize w2.alloc (.cells #[.int .i64 x, .int .i64 y] 43) = w3 at *
              generalize w2.heap.size = gx at *
              have al := below_alloc w3 (.cells #[.int .i64 x, .int .i64 y] 43)
              have TMP := hide (Box2.new w3 43 (.int .i64 x) (.int .i64 y))
              have OA := hide (OO.out.below al)
              have BA := hide (HB.out.trans (al.mono HB.out.size))
              have d0 := PB.out.cell0
              have d1 := PB.out.cell1
              have LP : Hid ((ptsOf pre).length ≤ 65537) := hide (by rw [ptsOf_len]; exact LL.out)
              have HW : Hid (w.heap.size ≤ (w3.alloc (.cells #[.int .i64 x, .int .i64 y] 43)).heap.size) := hide BA.out.size
              clear al
              go_wp2_with (at_builtin; refine wpList_append_own _ rfl _ _ 39 rfl w.heap.size 43 i0 (.agg #[.int .i64 0, .int .i64 0]) 2 16 Tryd.underlying39 TR.out.1 TR.out.2.1 TR.out.2.2.1 TR.out.2.2.2 rfl (by decide) _ _ _ rfl OA.out ⟨w3.heap.size, 0, none⟩ 1 _ [.int .i64 x, .int .i64 y] rfl rfl (two_cells TMP.out) (by intro u hu; simp only [List.mem_cons, List.not_mem_nil, or_false] at hu; rcases hu with rfl | rfl <;> rfl) (by have := LP.out; unfold maxLen; omega) (by have := LP.out; omega) HW.out ?_; intro v' w4 hown hgrow hnil; have OW : Hid (OwnP w4 w.heap.size v' (ptsOf pre ++ [(x, y)])) := hide (own_snoc hown); have BW := hide (BA.out.grown hgrow BA.out.size (fun r e => (OA.out.ge e).1)); clear hown hgrow hnil)
              go_roundw
              case rel => exact ⟨pre ++ [s.extract f i], i + 1, i + 1, HN.out, by omega, Nat.le_refl _, by go_num, by go_num, HD.out.app (by rw [RD.out]; simp), by rw [ptsOf_app, RD.out]; exact OW.out, BW.out⟩
              case measure => simp [intOf]; omega
            · have RD := hide hrd
              clear hrd
              go_wp2
              go_ret2
              exact ⟨_, _, rfl, .inr (.inr ⟨h0, pre, s.extract f i, HX.out, HD.out, RD.out, by rw [HC.out.2.2]⟩), HB.out.alloc HB.out.size _⟩
          · have q1 : (((bt s i : Nat) : Int) != 32) = true := by simp; omega
            have HN : Hid (RfI s pre f (i + 1)) := hide (.inl ⟨by omega, by omega, HC.out.1, HC.out.2.1.more hbt, HC.out.2.2⟩)
            have hlt' : (i : Int) < (s.size : Int) := by omega
            clear hbt
            go_wp2
            go_roundw
            case rel => exact ⟨pre, f, i + 1, HN.out, by omega, by omega, rfl, by go_num, HD.out, OO.out, HB.out⟩
            case measure => simp [intOf]; omega
        · have e : i = s.size := by omega
          have HN : Hid (RfI s (pre ++ [s.extract f i]) (i + 1) (i + 1)) := hide (.inr ⟨by omega, by omega, by have hc := HC.out.2.1; have h1 := HC.out.1; rw [e] at hc ⊢; rw [pieces_end hc] at h1; exact h1.symm⟩)
          have HX : Hid (pre ++ [s.extract f i] <+: splB 32 s) := hide ⟨[], by have hc := HC.out.2.1; have h1 := HC.out.1; rw [e] at hc ⊢; rw [pieces_end hc] at h1; rw [h1]; simp⟩
          have hlt' : ¬ (i : Int) < (s.size : Int) := by omega
          clear e
          have hfs : f ≤ s.size := by omega
          go_wp2_with fail
          refine (rfind_any (s.extract f i) _ (by rw [ByteArray.size_extract]; omega)).mono ?_
          rintro e w2 ⟨hrp, hb⟩
          replace HB := hide (HB.out.trans (hb.mono HB.out.size))
          replace OO := hide (OO.out.below hb)
          clear hb
          rcases hrp with ⟨x, y, hrd, rfl⟩ | ⟨hrd, rfl⟩
          · have RD := hide hrd
            clear hrd
            go_upto_region 10 with fail
            have b1 := below_alloc w2 (.cells #[.int .i64 x, .int .i64 y] 43)
            have PB := hide (Box2.new w2 43 (.int .i64 x) (.int .i64 y))
            replace OO := hide (OO.out.below b1)
            replace HB := hide (HB.out.trans (b1.mono HB.out.size))
            clear b1
            generalize w2.alloc (.cells #[.int .i64 x, .int .i64 y] 43) = w3 at *
            generalize w2.heap.size = gx at *
            have al := below_alloc w3 (.cells #[.int .i64 x, .int .i64 y] 43)
            have TMP := hide (Box2.new w3 43 (.int .i64 x) (.int .i64 y))
            have OA := hide (OO.out.below al)
            have BA := hide (HB.out.trans (al.mono HB.out.size))
            have d0 := PB.out.cell0
            have d1 := PB.out.cell1
            have LP : Hid ((ptsOf pre).length ≤ 65537) := hide (by rw [ptsOf_len]; exact LL.out)
            have HW : Hid (w.heap.size ≤ (w3.alloc (.cells #[.int .i64 x, .int .i64 y] 43)).heap.size) := hide BA.out.size
            clear al
            go_wp2_with (at_builtin; refine wpList_append_own _ rfl _ _ 39 rfl w.heap.size 43 i0 (.agg #[.int .i64 0, .int .i64 0]) 2 16 Tryd.underlying39 TR.out.1 TR.out.2.1 TR.out.2.2.1 TR.out.2.2.2 rfl (by decide) _ _ _ rfl OA.out ⟨w3.heap.size, 0, none⟩ 1 _ [.int .i64 x, .int .i64 y] rfl rfl (two_cells TMP.out) (by intro u hu; simp only [List.mem_cons, List.not_mem_nil, or_false] at hu; rcases hu with rfl | rfl <;> rfl) (by have := LP.out; unfold maxLen; omega) (by have := LP.out; omega) HW.out ?_; intro v' w4 hown hgrow hnil; have OW : Hid (OwnP w4 w.heap.size v' (ptsOf pre ++ [(x, y)])) := hide (own_snoc hown); have BW := hide (BA.out.grown hgrow BA.out.size (fun r e => (OA.out.ge e).1)); clear hown hgrow hnil)
            go_roundw
            case rel => exact ⟨pre ++ [s.extract f i], i + 1, i + 1, HN.out, by omega, Nat.le_refl _, by go_num, by go_num, HD.out.app (by rw [RD.out]; simp), by rw [ptsOf_app, RD.out]; exact OW.out, BW.out⟩
            case measure => simp [intOf]; omega
          · have RD := hide hrd
            clear hrd
            go_wp2
            go_ret2
            exact ⟨_, _, rfl, .inr (.inr ⟨h0, pre, s.extract f i, HX.out, HD.out, RD.out, by rw [HC.out.2.2]⟩), HB.out.alloc HB.out.size _⟩
      · have HE : Hid (pre = splB 32 s) := hide (by rcases HI.out with ⟨h, _⟩ | ⟨_, _, h⟩; omega; exact h)
        obtain ⟨va, vc, hv, _⟩ := OO.out.pts
        subst hv
        go_wp2
        go_ret2
        exact ⟨_, _, rfl, .inr (.inl ⟨h0, by rw [← HE.out]; exact HD.out, by rw [← HE.out]; exact OO.out.pts, rfl⟩), HB.out⟩
end Go.Proofs.YtenmogmdijnlhaaDoor

namespace Go.Proofs.YtenmogmdijnlhaaDoor
open Go.RowKit

/-- the text of the first k points -/
def ptN (ps : List (Int × Int)) : Nat → ByteArray
  | 0 => ⟨#[]⟩
  | k + 1 => (if k = 0 then ptN ps k else ptN ps k ++ ⟨#[32]⟩) ++ ptx (pA ps k) (pB ps k)
theorem join_snocP (x : List UInt8) (sep : List UInt8) : ∀ (ps : List (List UInt8)), ps ≠ [] → Lib.join (ps ++ [x]) sep = Lib.join ps sep ++ sep ++ x
  | [p], _ => by simp [Lib.join, List.intercalate, List.intersperse]
  | p :: q :: ps, _ => by
    have := join_snocP x sep (q :: ps) (by simp)
    simp only [Lib.join, List.intercalate, List.cons_append, List.intersperse, List.flatten_cons] at this ⊢
    rw [this]
    simp
theorem ptN_bl (ps : List (Int × Int)) : ∀ k, k ≤ ps.length → bl (ptN ps k) = Lib.join ((ps.take k).map fun p => (ptx p.1 p.2).data.toList) [32]
  | 0, _ => rfl
  | k + 1, h => by
    have ih := ptN_bl ps k (by omega)
    have hk : ps.take (k + 1) = ps.take k ++ [(pA ps k, pB ps k)] := by
      rw [List.take_add_one, List.getElem?_eq_getElem (show k < ps.length from h)]
      unfold pA pB
      rw [List.getD_eq_getElem?_getD, List.getElem?_eq_getElem (show k < ps.length from h)]
      rfl
    rw [hk, List.map_append, List.map_singleton]
    unfold ptN
    have happ : ∀ s t : ByteArray, bl (s ++ t) = bl s ++ bl t := fun s t => by unfold bl; rw [ByteArray.data_append, Array.toList_append]
    by_cases h0 : k = 0
    · subst h0
      rw [if_pos rfl, happ]
      simp [ptN, bl, Lib.join_one]
    · rw [if_neg h0, happ, happ, ih, join_snocP _ _ _ (by cases ps with | nil => simp at h | cons a l => cases k with | zero => exact absurd rfl h0 | succ k => simp)]
      simp [bl]
theorem ptN_end (ps : List (Int × Int)) : ptN ps ps.length = ptxs ps := by
  apply bl_inj
  rw [ptN_bl ps _ (Nat.le_refl _), List.take_length]
  rfl
theorem ptx_size (a b : Int) (ha : -9223372036854775808 ≤ a) (ha' : a ≤ 9223372036854775807) (hb : -9223372036854775808 ≤ b) (hb' : b ≤ 9223372036854775807) : (ptx a b).size ≤ 45 := by
  have h1 := itB_size a ha ha'
  have h2 := itB_size b hb hb'
  unfold ptx
  split
  · omega
  · split
    · show (3 : Nat) ≤ 45; decide
    · split
      · rw [ByteArray.size_append, ByteArray.size_append]
        have : (⟨#[47]⟩ : ByteArray).size = 1 := rfl
        omega
      · rw [ByteArray.size_append, ByteArray.size_append, ByteArray.size_append, ByteArray.size_append]
        have e1 : (⟨#[40]⟩ : ByteArray).size = 1 := rfl
        have e2 : (⟨#[58]⟩ : ByteArray).size = 1 := rfl
        have e3 : (⟨#[41]⟩ : ByteArray).size = 1 := rfl
        omega
theorem ptN_size {ps : List (Int × Int)} (hw : PtsW ps) : ∀ k, (ptN ps k).size ≤ 46 * k
  | 0 => by show (0 : Nat) ≤ _; omega
  | k + 1 => by
    have ih := ptN_size hw k
    have hx := ptx_size _ _ (hw k).1.1 (hw k).1.2 (hw k).2.1 (hw k).2.2
    show ((if k = 0 then ptN ps k else ptN ps k ++ ⟨#[32]⟩) ++ ptx (pA ps k) (pB ps k)).size ≤ _
    rw [ByteArray.size_append]
    split
    · omega
    · rw [ByteArray.size_append]
      have e1 : (⟨#[32]⟩ : ByteArray).size = 1 := rfl
      omega
theorem ptxs_size {ps : List (Int × Int)} (hw : PtsW ps) : (ptxs ps).size ≤ 46 * ps.length := by rw [← ptN_end]; exact ptN_size hw _
theorem join_small {ps : List (Int × Int)} (hw : PtsW ps) : (Lib.join (ps.map fun p => (ptx p.1 p.2).data.toList) [32]).length ≤ 46 * ps.length := ptxs_size hw

set_option maxRecDepth 100000 in
set_option maxHeartbeats 4000000 in
theorem rlistP_any (va : Value) (ps : List (Int × Int)) (w : World) (h : PtsAt w va ps) (hw : PtsW ps) (hm : ps.length ≤ 100000) :
    Calls Tryd.prog 15 #[va] w fun e w' => e = .returned (.string (ptxs ps)) ∧ Below w.heap.size w w' := by
  have HI := hide h
  have HS := hide hw
  obtain ⟨a, cap, rfl, hcap, hmx, _⟩ := h
  unfold maxLen at hmx
  clear hw
  go_enter Tryd.func15, Tryd.ntmps15
  go_wp2
  go_loopw [3, 4] (fun sv iv wr => ∃ k : Nat, k ≤ ps.length ∧ iv = .int .i64 k ∧ sv = .string (ptN ps k) ∧ Below w.heap.size w wr) (fun _ iv _ => ps.length - (intOf iv).toNat)
  case atStart => exact ⟨0, Nat.zero_le _, rfl, rfl, Below.refl _ _⟩
  case round =>
    obtain ⟨k, hk, rfl, rfl, hb⟩ := hrel
    have HB := hide hb
    clear hb
    by_cases hlt : k < ps.length
    · obtain ⟨b, off, rfl, hc⟩ := (HI.out.below HB.out).at hlt
      have c0 := hc.cell0
      have c1 := hc.cell1
      have tsz := ptN_size HS.out k
      have LZ := hide (HS.out k)
      have isz := ptx_size _ _ LZ.out.1.1 LZ.out.1.2 LZ.out.2.1 LZ.out.2.2
      have HT : Hid (ptN ps (k + 1) = (if k = 0 then ptN ps k else ptN ps k ++ ⟨#[32]⟩) ++ ptx (pA ps k) (pB ps k)) := hide rfl
      obtain ⟨tx, htx⟩ : ∃ tx, tx = ptN ps k := ⟨_, rfl⟩
      rw [← htx] at HT tsz
      rw [← htx]
      clear htx hc
      generalize pA ps k = x at *
      generalize pB ps k = y at *
      have PX : Hid (∀ u, Calls Tryd.prog 32 #[.agg #[.int .i64 x, .int .i64 y]] u fun e w' => e = .returned (.string (ptx x y)) ∧ Below u.heap.size u w') := hide (fun u => rptx_any x y u LZ.out.1.1 LZ.out.1.2 LZ.out.2.1 LZ.out.2.2)
      generalize ptx x y = it at *
      by_cases h0 : k = 0
      · have hk0 : ¬ (0 : Int) < (k : Int) := by omega
        rw [if_pos h0] at HT
        clear h0
        go_wp2_with fail
        refine (PX.out _).mono ?_
        rintro e w2 ⟨rfl, hb⟩
        replace HB := hide (HB.out.trans (hb.mono HB.out.size))
        clear hb c0 c1
        go_wp2
        go_roundw
        case rel => exact ⟨k + 1, by omega, by go_num, by rw [HT.out], HB.out⟩
        case measure => simp [intOf]; omega
      · have hk0 : (0 : Int) < (k : Int) := by omega
        rw [if_neg h0] at HT
        clear h0
        go_wp2_with fail
        refine (PX.out _).mono ?_
        rintro e w2 ⟨rfl, hb⟩
        replace HB := hide (HB.out.trans (hb.mono HB.out.size))
        clear hb c0 c1
        go_wp2
        go_roundw
        case rel => exact ⟨k + 1, by omega, by go_num, by rw [HT.out], HB.out⟩
        case measure => simp [intOf]; omega
    · have e : k = ps.length := by omega
      subst e
      have TE := hide (ptN_end ps)
      obtain ⟨tx, htx⟩ : ∃ tx, tx = ptN ps ps.length := ⟨_, rfl⟩
      rw [← htx] at TE
      rw [← htx]
      clear htx
      go_wp2
      go_ret
      rw [← TE.out]
      exact ⟨rfl, HB.out⟩
end Go.Proofs.YtenmogmdijnlhaaDoor

namespace Go.Proofs.YtenmogmdijnlhaaDoor
open Go.RowKit

theorem pre_getP {ps pre : List ByteArray} {x : ByteArray} (h : pre ++ [x] <+: ps) : ps[pre.length]? = some x ∧ ∀ i, i < pre.length → ps[i]? = pre[i]? := by
  obtain ⟨t, rfl⟩ := h
  refine ⟨by simp, fun i hi => ?_⟩
  rw [List.getElem?_append_left (by simp; omega), List.getElem?_append_left hi]
theorem bad_le {ps pre qre : List ByteArray} {x y : ByteArray} (h1 : pre ++ [x] <+: ps) (hx : rpP x = none) (k1 : qre ++ [y] <+: ps) (k2 : PDone qre) : qre.length ≤ pre.length := by
  rcases Nat.lt_or_ge pre.length qre.length with h | h
  · have e1 := (pre_getP h1).1
    have e2 := (pre_getP k1).2 _ h
    rw [e1, List.getElem?_eq_getElem h] at e2
    have e3 : x = qre[pre.length] := by simpa using e2
    exact absurd hx (by rw [e3]; exact k2 _ (List.getElem_mem h))
  · exact h
theorem bad_same {ps pre qre : List ByteArray} {x y : ByteArray} (h1 : pre ++ [x] <+: ps) (h2 : PDone pre) (hx : rpP x = none) (k1 : qre ++ [y] <+: ps) (k2 : PDone qre) (hy : rpP y = none) : pre = qre := by
  have e : pre.length = qre.length := Nat.le_antisymm (bad_le k1 hy h1 h2) (bad_le h1 hx k1 k2)
  apply List.ext_getElem?
  intro i
  rcases Nat.lt_or_ge i pre.length with h | h
  · rw [← (pre_getP h1).2 i h, (pre_getP k1).2 i (by omega)]
  · rw [List.getElem?_eq_none h, List.getElem?_eq_none (by omega)]
theorem bad_not {ps pre : List ByteArray} {x : ByteArray} (h1 : pre ++ [x] <+: ps) (hx : rpP x = none) (h : PDone ps) : False :=
  h x (h1.subset (by simp)) hx
/-- both sides fail at the same place -/
theorem both_bad {s : ByteArray} {v v' : Value} {a b : Nat} {p : Int} {w w' : World} (h : RdP s v a b w) (k : RfP s v' p w') (hp : 0 ≤ p) : v = .slice none 0 0 ∧ a = 6 ∧ (b : Int) = p := by
  rcases k with ⟨_, _, rfl⟩ | ⟨_, _, _, rfl⟩ | ⟨h0, pre, x, k1, k2, k3, rfl⟩
  · omega
  · omega
  · rcases h with ⟨h1, _⟩ | ⟨_, h1, _⟩ | ⟨_, h1, qre, y, g1, g2, g3, rfl, rfl⟩
    · exact absurd h1 h0
    · exact (bad_not k1 k3 h1).elim
    · rw [bad_same g1 g2 g3 k1 k2 k3]
      exact ⟨h1, rfl, rfl⟩
theorem ptsOf_w {ps : List ByteArray} (h : PDone ps) : PtsW (ptsOf ps) ∧ (ptsOf ps).map (fun p => (ptx p.1 p.2).data.toList) = ps.map bl := by
  have key : ∀ i, i < ps.length → inB (pA (ptsOf ps) i) (pB (ptsOf ps) i) = true ∧ ptx (pA (ptsOf ps) i) (pB (ptsOf ps) i) = ps.getD i ByteArray.empty := by
    intro i hi
    have hg : (ptsOf ps).getD i (0, 0) = (rpP (ps.getD i ByteArray.empty)).getD (0, 0) := by
      unfold ptsOf
      rw [List.getD_eq_getElem?_getD, List.getElem?_map, List.getElem?_eq_getElem hi, List.getD_eq_getElem?_getD, List.getElem?_eq_getElem hi]
      rfl
    have hm : ps.getD i ByteArray.empty ∈ ps := by
      rw [List.getD_eq_getElem?_getD, List.getElem?_eq_getElem hi]
      exact List.getElem_mem hi
    unfold pA pB
    rw [hg]
    cases hr : rpP (ps.getD i ByteArray.empty) with
    | none => exact absurd hr (h _ hm)
    | some q => obtain ⟨a, b⟩ := q; exact rp_told hr
  constructor
  · intro i
    rcases Nat.lt_or_ge i ps.length with hi | hi
    · have := in_yes (key i hi).1; omega
    · have e : (ptsOf ps).getD i (0, 0) = (0, 0) := by rw [List.getD_eq_getElem?_getD, List.getElem?_eq_none (by rw [ptsOf_len]; exact hi)]; rfl
      unfold pA pB
      rw [e]
      decide
  · apply List.ext_getElem (by simp [ptsOf_len])
    intro i h1 h2
    simp only [List.length_map] at h1 h2
    have := (key i h2).2
    unfold pA pB at this
    rw [List.getD_eq_getElem?_getD, List.getElem?_eq_getElem h1, List.getD_eq_getElem?_getD, List.getElem?_eq_getElem h2] at this
    simp only [List.getElem_map]
    simp only [Option.getD_some] at this
    rw [this]
    rfl
/-- what was read is told as it was -/
theorem told_back {s : ByteArray} (h : PDone (splB 32 s)) : ptxs (ptsOf (splB 32 s)) = s := by
  apply bl_inj
  show Lib.join ((ptsOf (splB 32 s)).map fun p => (ptx p.1 p.2).data.toList) [32] = bl s
  rw [(ptsOf_w h).2, map_splP, join_splP]
/-- both sides read the same -/
theorem both_good {s : ByteArray} {v v' : Value} {a b : Nat} {p : Int} {w w' : World} (h : RdP s v a b w) (k : RfP s v' p w') (hp : ¬ 0 ≤ p) : a = 0 ∧ b = 0 ∧ p = -1 ∧ ∃ ps, PtsAt w v ps ∧ PtsAt w' v' ps ∧ PtsW ps ∧ ptxs ps = s ∧ ps.length ≤ s.size + 1 := by
  rcases k with ⟨h0, rfl, rfl⟩ | ⟨h0, k1, k2, rfl⟩ | ⟨h0, pre, x, k1, k2, k3, rfl⟩
  · rcases h with ⟨_, rfl, rfl, rfl⟩ | ⟨h1, _⟩ | ⟨h1, _⟩
    · refine ⟨rfl, rfl, rfl, [], ?_, ?_, ?_, ?_, by simp⟩
      · exact ⟨none, 0, rfl, Nat.le_refl _, Nat.zero_le _, fun h => absurd rfl h⟩
      · exact ⟨none, 0, rfl, Nat.le_refl _, Nat.zero_le _, fun h => absurd rfl h⟩
      · intro i; simp [pA, pB]
      · apply ByteArray.ext
        apply Array.ext'
        have : s.data.toList = [] := List.eq_nil_of_length_eq_zero h0
        rw [this]
        rfl
    · exact absurd h0 h1
    · exact absurd h0 h1
  · rcases h with ⟨h1, _⟩ | ⟨_, h1, h2, rfl, rfl⟩ | ⟨_, _, qre, y, g1, g2, g3, _⟩
    · exact absurd h1 h0
    · exact ⟨rfl, rfl, rfl, _, h2, k2, (ptsOf_w h1).1, told_back h1, by rw [ptsOf_len]; exact spl_fewP 32 s⟩
    · exact (bad_not g1 g3 k1).elim
  · omega
/-- a text of points that are in is read as them -/
theorem text_points {ps : List (Int × Int)} (hin : ∀ i, i < ps.length → inB (pA ps i) (pB ps i) = true) {v : Value} {a b : Nat} {w : World} (h : RdP (ptxs ps) v a b w) : a = 0 ∧ b = 0 ∧ PtsAt w v ps := by
  have hm : ∀ p ∈ ps, inB p.1 p.2 = true := by
    intro p hp
    obtain ⟨i, hi, rfl⟩ := List.getElem_of_mem hp
    have := hin i hi
    unfold pA pB at this
    rw [List.getD_eq_getElem?_getD, List.getElem?_eq_getElem hi] at this
    exact this
  cases hps : ps with
  | nil =>
    subst hps
    have e : (ptxs []).size = 0 := rfl
    rcases h with ⟨_, rfl, rfl, rfl⟩ | ⟨h0, _⟩ | ⟨h0, _⟩
    · exact ⟨rfl, rfl, none, 0, rfl, Nat.le_refl _, Nat.zero_le _, fun h => absurd rfl h⟩
    · exact absurd e h0
    · exact absurd e h0
  | cons q qs =>
    have hs : spl 32 (bl (ptxs ps)) = ps.map fun p => (ptx p.1 p.2).data.toList := by
      show spl 32 (Lib.join (ps.map fun p => (ptx p.1 p.2).data.toList) [32]) = _
      refine spl_joinP (by rw [hps]; simp) ?_
      intro l hl
      obtain ⟨p, hp, rfl⟩ := List.mem_map.1 hl
      exact (ptx_in (hm p hp)).2.2
    have hb : splB 32 (ptxs ps) = ps.map fun p => ptx p.1 p.2 := by
      unfold splB
      rw [hs, List.map_map]
      apply List.map_congr_left
      intro p _
      exact mkB_bl _
    have hd : PDone (splB 32 (ptxs ps)) := by
      rw [hb]
      intro x hx
      obtain ⟨p, hp, rfl⟩ := List.mem_map.1 hx
      rw [rp_ptx (hm p hp)]
      simp
    have hp : ptsOf (splB 32 (ptxs ps)) = ps := by
      rw [hb]
      unfold ptsOf
      rw [List.map_map]
      conv => rhs; rw [← List.map_id ps]
      apply List.map_congr_left
      intro p hp
      show (rpP (ptx p.1 p.2)).getD (0, 0) = p
      rw [rp_ptx (hm p hp)]
      rfl
    have hn : (ptxs ps).size ≠ 0 := by
      intro e
      have h1 : bl (ptxs ps) = [] := List.eq_nil_of_length_eq_zero (by rw [bl_len]; exact e)
      rw [h1] at hs
      have h2 : ([[]] : List (List UInt8)) = ps.map fun p => (ptx p.1 p.2).data.toList := hs
      have h3 : ([] : List UInt8) ∈ ps.map fun p => (ptx p.1 p.2).data.toList := by rw [← h2]; simp
      obtain ⟨p, hp, he⟩ := List.mem_map.1 h3
      have := (ptx_in (hm p hp)).2.1
      have h4 : (ptx p.1 p.2).size = (ptx p.1 p.2).data.toList.length := rfl
      rw [h4, he] at this
      simp at this
    rw [← hps]
    rcases h with ⟨h0, _⟩ | ⟨_, _, h2, rfl, rfl⟩ | ⟨_, _, qre, y, g1, g2, g3, _⟩
    · exact absurd h0 hn
    · rw [hp] at h2; exact ⟨rfl, rfl, h2⟩
    · exact (bad_not g1 g3 hd).elim
end Go.Proofs.YtenmogmdijnlhaaDoor
