/-
  The law's own helpers on entries: sizes, copies, and a layer among the arguments, opened. Conditions: sizes that an int holds.
-/
import Derived.Test.YtcecjdjfbgmogaaDoorEqE
import Derived.Test.YtcecjdjfbgmogaaDoorOpen
import Derived.Test.YtcecjdjfbgmogaaDoorMem
import Derived.Laws.MakeOwn
namespace Go.Proofs.YtcecjdjfbgmogaaDoor
open Go.ChangeShapes Go.WideShapes Go.Deep Go.RowKit

/-- how much an entry weighs -/
def Ent.size (l : Ent) : Nat := l.s.size + l.k.size + l.v.size
/-- each part is no longer than a text may be -/
def Ent.inReach (l : Ent) : Prop := l.s.size ≤ maxLen ∧ l.k.size ≤ maxLen ∧ l.v.size ≤ maxLen

set_option maxHeartbeats 1000000 in
theorem szEntry_any (l : Ent) (left : Int) (w : World) (h0 : 0 ≤ left) (h1 : left ≤ 1048576) (hr : l.inReach) :
    Calls Tryd.prog 83 #[l.agg, .int .i64 left] w fun e w' => e = .returned (.int .i64 (less left l.size)) ∧ Grows w w' := by
  obtain ⟨r1, r2, r3⟩ := hr
  have HL : Hid (l.size = l.s.size + l.k.size + l.v.size) := rfl
  unfold maxLen at r1 r2 r3
  unfold Ent.agg
  go_enter Tryd.func83, Tryd.ntmps83
  go_wp2
  all_goals
    go_ret
    exact ⟨ret_int (by have := HL.out; first | (rw [less_no (by omega)]) | (rw [less_of (by omega)]; omega)), (Grows.refl _).alloc _⟩

/-- the weight of the first k entries -/
def esum (ls : List Ent) (k : Nat) : Nat := ((ls.take k).map Ent.size).sum
theorem esum_succ {ls : List Ent} {k : Nat} (hk : k < ls.length) : esum ls (k + 1) = esum ls k + ls[k].size := by
  unfold esum
  rw [List.take_succ_eq_append_getElem hk, List.map_append, List.sum_append]
  simp
theorem esum_le (ls : List Ent) (k : Nat) : esum ls k ≤ esum ls ls.length := by
  unfold esum
  rw [List.take_length]
  have h := List.take_append_drop k ls
  have : (ls.map Ent.size).sum = ((ls.take k).map Ent.size).sum + ((ls.drop k).map Ent.size).sum := by
    rw [← List.sum_append, ← List.map_append, h]
  omega
/-- the weight of entries: their number and their parts -/
def wents (ls : List Ent) : Nat := ls.length + esum ls ls.length
/-- each part is at most so long as the purse -/
def Ent.fits (l : Ent) : Prop := l.s.size ≤ 1048576 ∧ l.k.size ≤ 1048576 ∧ l.v.size ≤ 1048576
def EFit (ls : List Ent) : Prop := ls.length ≤ 1048576 ∧ ∀ i (h : i < ls.length), ls[i].fits
theorem epart_le {ls : List Ent} {i : Nat} (h : i < ls.length) : ls[i].size ≤ esum ls ls.length := by
  have h1 := esum_succ h
  have h2 := esum_le ls (i + 1)
  omega
theorem efits_of {ls : List Ent} {m : Int} (h : (wents ls : Int) ≤ m) (hm : m ≤ 1048576) : EFit ls := by
  have hw : wents ls = ls.length + esum ls ls.length := rfl
  refine ⟨by omega, fun i hi => ?_⟩
  have h1 := epart_le hi
  have h2 : ls[i].size = ls[i].s.size + ls[i].k.size + ls[i].v.size := rfl
  unfold Ent.fits
  omega

set_option maxHeartbeats 1000000 in
theorem szEntryS_any (A : Option Addr) (c : Nat) (ls : List Ent) (left : Int) (w : World) (h0 : 0 ≤ left) (h1 : left ≤ 1048576) (hn : ls.length ≤ maxLen) (hr : ∀ i (h : i < ls.length), ls[i].inReach) (hA : EntsAt w A ls) :
    Calls Tryd.prog 60 #[.slice A ls.length c, .int .i64 left] w fun e w' => e = .returned (.int .i64 (less left (wents ls))) ∧ Grows w w' := by
  have HR := Lib.hid hr
  have HA := Lib.hid hA
  have HW : Hid (wents ls = ls.length + esum ls ls.length) := rfl
  clear hA hr
  obtain ⟨n, hnn⟩ : ∃ n, ls.length = n := ⟨_, rfl⟩
  rw [hnn] at hn
  rw [hnn]
  have HN := Lib.hid hnn
  clear hnn
  unfold maxLen at hn
  by_cases hl : left < n
  · have HV : Hid (less left (wents ls) = -1) := less_no (by rw [HW.out, HN.out]; omega)
    go_enter Tryd.func60, Tryd.ntmps60
    go_wp2
    go_ret
    exact ⟨ret_int HV.out.symm, Grows.refl _⟩
  · go_enter Tryd.func60, Tryd.ntmps60
    go_wp2
    go_loopw [1, 5] (fun v i wr => ∃ (k : Nat) (m : Int), k ≤ n ∧ i = .int .i64 k ∧ v = .int .i64 m ∧ 0 ≤ m ∧ m ≤ 1048576 ∧ Hid (m = left - n - esum ls k) ∧ Grows w wr) (fun _ i _ => n - (intOf i).toNat)
    case atStart => exact ⟨0, left - n, Nat.zero_le _, rfl, rfl, by omega, by omega, by unfold Hid esum; simp, Grows.refl _⟩
    case round =>
      obtain ⟨k, m, hk, rfl, rfl, hm0, hm1, HM, hg⟩ := hrel
      have HG := Lib.hid hg
      clear hg
      by_cases hlt : k < n
      · obtain ⟨b, o, rfl, hb, hc⟩ := HA.out (by rw [HN.out]; omega)
        have hk2 : k < ls.length := by rw [HN.out]; exact hlt
        obtain ⟨l, hl⟩ : ∃ l, ls[k] = l := ⟨_, rfl⟩
        have hat := (hc k hk2).keep hb HG.out
        rw [hl] at hat
        obtain ⟨c0, c1, c2, c3⟩ := hat
        have HS := Lib.hid (fun w => szEntry_any l m w hm0 hm1 (hl ▸ HR.out k hk2))
        have HK : Hid (esum ls (k + 1) = esum ls k + l.size) := by unfold Hid; rw [esum_succ hk2, hl]
        have HX : Hid (esum ls (k + 1) ≤ esum ls n) := by
          have := esum_le ls (k + 1)
          rw [HN.out] at this
          exact this
        clear hl hc
        unfold Ent.agg at HS
        by_cases hv : (l.size : Int) ≤ m
        · rw [less_of hv] at HS
          go_wp2_with fail
          refine (HS.out _).mono ?_
          rintro e w1 ⟨rfl, hg1⟩
          go_wp2
          go_roundw
          case rel => exact ⟨k + 1, m - l.size, by omega, by go_num, rfl, by omega, by omega, by have := HK.out; have := HM.out; unfold Hid; omega, HG.out.trans hg1⟩
          case measure => simp [intOf]; omega
        · rw [less_no (by omega)] at HS
          have HV : Hid (less left (wents ls) = -1) := less_no (by have := HW.out; have := HN.out; have := HX.out; have := HK.out; have := HM.out; rw [HN.out] at *; omega)
          go_wp2_with fail
          refine (HS.out _).mono ?_
          rintro e w1 ⟨rfl, hg1⟩
          go_wp2
          go_ret
          exact ⟨ret_int HV.out.symm, HG.out.trans hg1⟩
      · obtain rfl : k = n := by omega
        have HV : Hid (less left (wents ls) = m) := by
          have h1 := HW.out
          have h2 := HM.out
          rw [HN.out] at h1
          unfold Hid
          rw [less_of (by omega)]
          omega
        go_wp2
        go_ret
        exact ⟨ret_int HV.out.symm, HG.out⟩

set_option maxHeartbeats 1000000 in
theorem szLayer_any (A : Option Addr) (c : Nat) (ls : List Ent) (left : Int) (w : World) (h0 : 0 ≤ left) (h1 : left ≤ 1048576) (hn : ls.length ≤ maxLen) (hr : ∀ i (h : i < ls.length), ls[i].inReach) (hA : EntsAt w A ls) :
    Calls Tryd.prog 32 #[.agg #[.slice A ls.length c], .int .i64 left] w fun e w' => e = .returned (.int .i64 (less left (wents ls))) ∧ Grows w w' := by
  have HS := Lib.hid (szEntryS_any A c ls left (w.alloc (.cells #[.slice A ls.length c] 54)) h0 h1 hn hr (hA.keep ((Grows.refl _).alloc _)))
  clear hA hr hn
  by_cases hv : (wents ls : Int) ≤ left
  · rw [less_of hv] at HS
    rw [less_of hv]
    obtain ⟨m, hm⟩ : ∃ m, left - (wents ls : Int) = m := ⟨_, rfl⟩
    rw [hm] at HS
    rw [hm]
    have hm0 : 0 ≤ m := by omega
    clear hv hm
    go_enter Tryd.func32, Tryd.ntmps32
    go_wp2_with fail
    refine (HS.out).mono ?_
    rintro e w1 ⟨rfl, hg1⟩
    go_wp2
    go_ret
    exact ⟨rfl, ((Grows.refl _).alloc _).trans hg1⟩
  · rw [less_no (by omega)] at HS
    rw [less_no (by omega)]
    clear hv
    go_enter Tryd.func32, Tryd.ntmps32
    go_wp2_with fail
    refine (HS.out).mono ?_
    rintro e w1 ⟨rfl, hg1⟩
    go_wp2
    go_ret
    exact ⟨rfl, ((Grows.refl _).alloc _).trans hg1⟩

set_option maxHeartbeats 1000000 in
theorem toEntry_any (l : Ent) (w : World) :
    Calls Tryd.prog 85 #[l.agg] w fun e w' => e = .returned l.agg ∧ Grows w w' := by
  unfold Ent.agg
  go_enter Tryd.func85, Tryd.ntmps85
  go_wp2
  refine bodyPost_ret (v := .agg #[.string l.s, .string l.k, .int .i64 l.op, .string l.v]) (by simp [results, Tryd.results85, go_sem]) rfl ⟨rfl, (((Grows.refl _).alloc _).alloc _).alloc _⟩

/-! ### entries stored into a row -/
theorem take_set_snoc {α : Type} (xs : List α) (i : Nat) (a : α) (h : i < xs.length) : (xs.set i a).take (i + 1) = xs.take i ++ [a] := by
  rw [List.take_succ_eq_append_getElem (by simpa using h), List.getElem_set_self, List.take_set_of_le (Nat.le_refl _)]
/-- the first k entries are there -/
def EDone (xs : List Value) (es : List Ent) (k : Nat) : Prop := xs.take (k * 4) = ecells (es.take k)
theorem EDone.put {xs : List Value} {es : List Ent} {k : Nat} (h : EDone xs es k) (hk : k < es.length) (hx : xs.length = es.length * 4) {e : Ent} (he : es[k] = e) :
    EDone ((((xs.set (k * 4) (.string e.s)).set (k * 4 + 1) (.string e.k)).set (k * 4 + 2) (.int .i64 e.op)).set (k * 4 + 3) (.string e.v)) es (k + 1) := by
  unfold EDone at h ⊢
  have hl : k * 4 + 4 ≤ xs.length := by omega
  rw [show (k + 1) * 4 = k * 4 + 3 + 1 from by omega, take_set_snoc _ _ _ (by simp; omega), take_set_snoc _ _ _ (by simp; omega), take_set_snoc _ _ _ (by simp; omega), take_set_snoc _ _ _ (by omega), h,
    List.take_succ_eq_append_getElem hk, he, ecells_snoc]
  simp [ecell]
/-- a state of the copying: a row of n entries whose first k are those of es -/
def ECopy (w0 w : World) (g n : Nat) (es : List Ent) (k : Nat) : Prop := (∃ xs, OwnQ w w0.heap.size (.slice (some ⟨g, 0, none⟩) n n) n xs ∧ EDone xs es k) ∧ Grows w0 w
theorem ECopy.keep {w0 a b : World} {g n k : Nat} {es : List Ent} (h : ECopy w0 a g n es k) (hg : Grows a b) : ECopy w0 b g n es k := by
  obtain ⟨⟨xs, h1, h2⟩, h3⟩ := h
  exact ⟨⟨xs, h1.keep hg, h2⟩, h3.trans hg⟩
theorem ECopy.cell {w0 a : World} {g n k : Nat} {es : List Ent} (h : ECopy w0 a g n es k) {i : Nat} (hi : i < n * 4) : ∃ v, a.cell? ⟨g, i, none⟩ = some v := by
  obtain ⟨⟨xs, h1, h2⟩, h3⟩ := h
  rw [World.ownsRow.cellAt h1 i hi]
  exact ⟨_, List.getElem?_eq_getElem (by rw [h1.size]; exact hi)⟩
theorem ECopy.frozen {w0 a : World} {g n k : Nat} {es : List Ent} (h : ECopy w0 a g n es k) (i : Nat) : a.frozen? ⟨g, i, none⟩ = false := by
  obtain ⟨⟨xs, h1, h2⟩, h3⟩ := h
  exact World.ownsRow.frozenAt h1 i
theorem ECopy.put {w0 a : World} {g n k : Nat} {es : List Ent} (h : ECopy w0 a g n es k) (hn : es.length = n) (hk : k < es.length) {e : Ent} (he : es[k] = e) :
    ECopy w0 ((((a.setCell ⟨g, k * 4, none⟩ (.string e.s)).setCell ⟨g, k * 4 + 1, none⟩ (.string e.k)).setCell ⟨g, k * 4 + 2, none⟩ (.int .i64 e.op)).setCell ⟨g, k * 4 + 3, none⟩ (.string e.v)) g n es (k + 1) := by
  obtain ⟨⟨xs, h1, h2⟩, h3⟩ := h
  have hg : w0.heap.size ≤ g := (World.ownsRow.lt h1 g rfl).1
  exact ⟨⟨_, (((h1.set_ _ _).set_ _ _).set_ _ _).set_ _ _, h2.put hk (by rw [h1.size, hn]) he⟩, (((h3.setCell hg _).setCell hg _).setCell hg _).setCell hg _⟩
theorem ECopy.done {w0 a : World} {g n : Nat} {es : List Ent} (h : ECopy w0 a g n es n) (hn : es.length = n) : OwnE a w0.heap.size (.slice (some ⟨g, 0, none⟩) n n) es := by
  obtain ⟨⟨xs, h1, h2⟩, h3⟩ := h
  unfold EDone at h2
  rw [List.take_of_length_le (by rw [h1.size]; exact Nat.le_refl _), List.take_of_length_le (by omega)] at h2
  subst h2
  unfold OwnE
  rw [hn]
  exact h1
theorem ECopy.start (w : World) (n : Nat) (es : List Ent) (hn : n ≤ 1048576) (M : Array Value) (hM : M.size = n * 4) : ECopy w (w.alloc (.cells M 66)) w.heap.size n es 0 := by
  refine ⟨⟨M.toList, ⟨by simpa using hM, .inr ⟨_, n, M, rfl, Nat.le_refl _, heap_alloc_new w _, Nat.le_refl _, by unfold maxLen; omega, hM, ?_⟩⟩, by unfold EDone; simp [ecells]⟩, (Grows.refl _).alloc _⟩
  rw [List.take_of_length_le (by simp; omega)]

set_option maxRecDepth 100000 in
set_option maxHeartbeats 1000000 in
theorem toEntryS_any (A : Option Addr) (c : Nat) (ls : List Ent) (w : World) (hn : ls.length ≤ 1048576) (hA : EntsAt w A ls) :
    Calls Tryd.prog 63 #[.slice A ls.length c] w fun e w' => e = .returned (.slice (some ⟨w.heap.size, 0, none⟩) ls.length ls.length) ∧ OwnE w' w.heap.size (.slice (some ⟨w.heap.size, 0, none⟩) ls.length ls.length) ls ∧ Grows w w' := by
  have HA := Lib.hid hA
  clear hA
  obtain ⟨n, hnn⟩ : ∃ n, ls.length = n := ⟨_, rfl⟩
  rw [hnn] at hn
  rw [hnn]
  have HN := Lib.hid hnn
  clear hnn
  obtain ⟨i0, hi, hz0, hz1, hz2⟩ := info_parts infoEntry
  have hmk := fun W => run_make_rowN (P := Tryd.prog) 23 66 i0 _ Tryd.underlying23 hi hz0 .i64 .i64 n n (Nat.le_refl _) (by rw [hz2]; omega) (by omega) W
  rw [hz1] at hmk
  clear hi hz0 hz1 hz2
  obtain ⟨M, hM⟩ : ∃ M, madeCells Ent.zero.agg.cells (n * 4) = M := ⟨_, rfl⟩
  rw [hM] at hmk
  have HO := Lib.hid (ECopy.start w n ls hn M (by rw [← hM]; exact size_madeCells _ _))
  clear hM
  go_enter Tryd.func63, Tryd.ntmps63
  go_wp2
  go_loopw [4] (fun i wr => ∃ (k : Nat), k ≤ n ∧ i = .int .i64 k ∧ Hid (ECopy w wr w.heap.size n ls k)) (fun i _ => n - (intOf i).toNat)
  case atStart => exact ⟨0, Nat.zero_le _, rfl, HO⟩
  case round =>
    obtain ⟨k, hk, rfl, HO2⟩ := hrel
    by_cases hlt : k < n
    · obtain ⟨b, o, rfl, hb, hc⟩ := HA.out (by rw [HN.out]; omega)
      have hk2 : k < ls.length := by rw [HN.out]; exact hlt
      obtain ⟨l, hl⟩ : ∃ l, ls[k] = l := ⟨_, rfl⟩
      have hat := (hc k hk2).keep hb HO2.out.2
      rw [hl] at hat
      obtain ⟨c0, c1, c2, c3⟩ := hat
      have HS := Lib.hid (fun w => toEntry_any l w)
      have HK := Lib.hid hl
      clear hl hc
      unfold Ent.agg at HS
      go_wp2_with fail
      refine (HS.out _).mono ?_
      rintro e w1 ⟨rfl, hg1⟩
      have HO3 := Lib.hid (HO2.out.keep hg1)
      obtain ⟨v0, e0⟩ := HO3.out.cell (i := k * 4) (by omega)
      obtain ⟨v1, e1⟩ := HO3.out.cell (i := k * 4 + 1) (by omega)
      obtain ⟨v2, e2⟩ := HO3.out.cell (i := k * 4 + 2) (by omega)
      obtain ⟨v3, e3⟩ := HO3.out.cell (i := k * 4 + 3) (by omega)
      have f0 := HO3.out.frozen (k * 4)
      have f1 := HO3.out.frozen (k * 4 + 1)
      have f2 := HO3.out.frozen (k * 4 + 2)
      have f3 := HO3.out.frozen (k * 4 + 3)
      clear hg1
      go_wp2_with fail
      go_roundw
      case rel => exact ⟨k + 1, by omega, by go_num, Lib.hid (HO3.out.put HN.out hk2 HK.out)⟩
      case measure => simp [intOf]; omega
    · obtain rfl : k = n := by omega
      go_wp2
      go_ret
      exact ⟨rfl, HO2.out.done HN.out, HO2.out.2⟩

set_option maxRecDepth 100000 in
set_option maxHeartbeats 1000000 in
theorem toLayer_any (A : Option Addr) (c : Nat) (ls : List Ent) (w : World) (hn : ls.length ≤ 1048576) (hA : EntsAt w A ls) :
    Calls Tryd.prog 34 #[.agg #[.slice A ls.length c]] w (ResE ls w) := by
  have HS := Lib.hid (fun w1 (g : Grows w w1) => toEntryS_any A c ls w1 hn (hA.keep g))
  clear hA hn
  go_enter Tryd.func34, Tryd.ntmps34
  go_wp2_with fail
  refine (HS.out _ ((((Grows.refl _).alloc _).alloc _).alloc _)).mono ?_
  rintro e w1 ⟨rfl, ho, hg⟩
  have hc := hg.bc
  have hf := hg.bf
  have hs : w.heap.size + 1 + 1 < w1.heap.size := Nat.lt_of_lt_of_le (by simp) hg.size
  have HG := Lib.hid hg
  have HO := Lib.hid ho
  clear hg ho
  go_wp2
  refine bodyPost_ret (v := .agg #[.slice (some ⟨w.heap.size + 1 + 1 + 1, 0, none⟩) ls.length ls.length]) (by simp [results, Tryd.results34, go_sem, hc]) rfl ?_
  have h3 := HO.out
  simp only [World.size_alloc] at h3
  have h4 := ((h3.setOther (p := w.heap.size + 1 + 1) (i := 0) (by omega) (Value.slice (some ⟨w.heap.size + 1 + 1 + 1, 0, none⟩) ls.length ls.length)).setOther (p := w.heap.size + 1) (i := 0) (by omega) (Value.slice (some ⟨w.heap.size + 1 + 1 + 1, 0, none⟩) ls.length ls.length)).less (base' := w.heap.size) (by omega)
  exact ⟨_, rfl, h4, ((((((Grows.refl _).alloc _).alloc _).alloc _).trans HG.out).setCell (by simp; omega) _).setCell (by simp) _⟩

instance instEntOpen : Inhabited Ent := ⟨⟨⟨#[]⟩, ⟨#[]⟩, 0, ⟨#[]⟩⟩⟩

section
variable {H : Type} {enc : TypeId × Value → H} {w : World} {base : Nat} {spare : Nat → Bool} {held : Bool}
theorem open_entries {fuel : Nat} {v : Value} {x : DataW H × List MemPlace} (h : DataW.trod enc Tryd.prog w base spare held fuel 52 [v] = some x) :
    ∃ (A : Option Addr) (c : Nat) (ls : List Ent), v = .slice A ls.length c ∧ EntsAt w A ls ∧ (∀ i (h : i < ls.length), ls[i].inReach) ∧ ls.length ≤ maxLen := by
  rcases open_slice_fields Tryd.underlying52 Tryd.underlying109 (by kernel_rfl) (by kernel_rfl) h with ⟨hcs, _⟩ | ⟨a, len, cap, m, D, Pl, hcs, _, hl, hm, hmm, _, hi⟩
  · obtain rfl : v = .slice none 0 0 := by simpa using hcs
    exact ⟨none, 0, [], rfl, EntsAt.nil _ _, fun i h => absurd h (Nat.not_lt_zero _), Nat.zero_le _⟩
  · obtain rfl : v = .slice (some a) len cap := by simpa using hcs
    have hlm : len ≤ m := by rw [hmm]; split <;> omega
    have hx : ∀ i, i < len → ∃ l : Ent, (w.cell? (a.add (i * 4 + 0)) = some (.string l.s) ∧ w.cell? (a.add (i * 4 + 1)) = some (.string l.k) ∧ w.cell? (a.add (i * 4 + 2)) = some (.int .i64 l.op) ∧
        w.cell? (a.add (i * 4 + 3)) = some (.string l.v)) ∧ l.inReach := by
      intro i hil
      obtain ⟨ys, n, _, _, _, hf⟩ := hi i (by omega)
      obtain ⟨v0, y0, k0, _, t0⟩ := hf 0 _ rfl
      obtain ⟨v1, y1, k1, _, t1⟩ := hf 1 _ rfl
      obtain ⟨v2, y2, k2, _, t2⟩ := hf 2 _ rfl
      obtain ⟨v3, y3, k3, _, t3⟩ := hf 3 _ rfl
      obtain ⟨z0, e0, _, b0⟩ := DataW.trod_string Tryd.underlying9 t0
      obtain ⟨z1, e1, _, b1⟩ := DataW.trod_string Tryd.underlying9 t1
      obtain ⟨z2, e2, _, _⟩ := DataW.trod_int Tryd.underlying3 t2
      obtain ⟨z3, e3, _, b3⟩ := DataW.trod_string Tryd.underlying9 t3
      simp only [List.cons.injEq, and_true] at e0 e1 e2 e3
      subst e0 e1 e2 e3
      exact ⟨⟨z0, z1, z2, z3⟩, ⟨k0, k1, k2, k3⟩, b0, b1, b3⟩
    obtain ⟨F, hF⟩ := choose_lt hx
    have hlen : ((List.range len).map F).length = len := by simp
    refine ⟨some a, cap, (List.range len).map F, by rw [hlen], fun h0 => ?_, fun i hi => ?_, by omega⟩
    · rw [hlen] at h0
      obtain ⟨⟨k0, _⟩, _⟩ := hF 0 h0
      have hsp := World.cell?_spot k0
      have hb := block_lt_of_cell k0
      obtain ⟨b, o, s⟩ := a
      have hs : s = none := by simpa [Addr.add] using hsp
      subst hs
      refine ⟨b, o, rfl, by simpa [Addr.add] using hb, fun i hi => ?_⟩
      have hi' : i < len := by simpa using hi
      obtain ⟨⟨c0, c1, c2, c3⟩, _⟩ := hF i hi'
      have hg : ((List.range len).map F)[i] = F i := by simp
      rw [hg]
      have ea : ∀ k, (⟨b, o, none⟩ : Addr).add k = ⟨b, o + k, none⟩ := by intro k; unfold Addr.add; split <;> simp_all
      rw [ea] at c0 c1 c2 c3
      exact ⟨c0, c1, c2, c3⟩
    · have hi' : i < len := by simpa using hi
      have hg : ((List.range len).map F)[i] = F i := by simp
      rw [hg]
      exact (hF i hi').2

set_option maxRecDepth 100000 in
theorem open_layer {r : Reach} {b0 : Nat} {v : Value} {d : DataW H} {p : List MemPlace} (hv : Value.okWide Tryd.prog w r b0 54 v) (h : DataW.Trod enc Tryd.prog w base spare held 54 v d p) :
    ∃ (A : Option Addr) (c : Nat) (ls : List Ent), v = .agg #[.slice A ls.length c] ∧ EntsAt w A ls ∧ (∀ i (h : i < ls.length), ls[i].inReach) ∧ ls.length ≤ maxLen := by
  obtain ⟨cs, rfl, hsz⟩ := okWide_struct Tryd.underlying54 hv
  have h1 : Tryd.prog.cellsOf 54 = 1 := by kernel_rfl
  rw [h1] at hsz
  obtain ⟨fuel, hf⟩ := h
  obtain ⟨xs, n, _, _, _, hlen, hg⟩ := DataW.trod_struct Tryd.underlying54 hf
  obtain ⟨l⟩ := cs
  match l, hsz with
  | [v0], _ =>
    have g0 := hg 0 _ rfl
    have hc1 : Tryd.prog.cellsOf 52 = 1 := by kernel_rfl
    match xs, hlen with
    | [y0], _ =>
      obtain ⟨A, c, ls, hv0, hA, hr, hn⟩ := open_entries (fuel := n) (v := v0) (x := y0) (by simpa [Value.cells, hc1] using g0)
      exact ⟨A, c, ls, by rw [hv0], hA, hr, hn⟩
end
end Go.Proofs.YtcecjdjfbgmogaaDoor
