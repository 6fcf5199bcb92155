/-
  Rows of lines known whole, and the builtin copy onto them. Condition: the copied lines fit.
-/
import Derived.Test.YtdedidcjbocicaaGrow
import Derived.Laws.CopyRow
import Derived.Laws.CopyOwn
namespace Go.Proofs.Ytdedidcjbocicaa
open Go.RowKit

theorem lcells_take (X : List Ln) (k : Nat) (hk : k ≤ X.length) : (lcells X).take (k * 6) = lcells (X.take k) := by
  have e : lcells X = lcells (X.take k) ++ lcells (X.drop k) := by rw [← lcells_append, List.take_append_drop]
  rw [e, List.take_left' (by rw [lcells_length, List.length_take, Nat.min_eq_left hk])]
theorem lcells_drop (X : List Ln) (k : Nat) (hk : k ≤ X.length) : (lcells X).drop (k * 6) = lcells (X.drop k) := by
  have e : lcells X = lcells (X.take k) ++ lcells (X.drop k) := by rw [← lcells_append, List.take_append_drop]
  rw [e, List.drop_left' (by rw [lcells_length, List.length_take, Nat.min_eq_left hk])]
/-- ms laid over X from place off on -/
def lay (X : List Ln) (off : Nat) (ms : List Ln) : List Ln := X.take off ++ (ms ++ X.drop (off + ms.length))
theorem lay_length {X : List Ln} {off : Nat} {ms : List Ln} (h : off + ms.length ≤ X.length) : (lay X off ms).length = X.length := by
  simp [lay]; omega
theorem lay_cells {X : List Ln} {off : Nat} {ms : List Ln} (h : off + ms.length ≤ X.length) : (lcells X).take (off * 6) ++ (lcells ms ++ (lcells X).drop (off * 6 + ms.length * 6)) = lcells (lay X off ms) := by
  rw [lay, lcells_append, lcells_append, lcells_take X off (by omega), ← lcells_drop X (off + ms.length) h, Nat.add_mul]
theorem lay_nil (X : List Ln) (off : Nat) : lay X off [] = X := by simp [lay]

/-- block g is a row of just these lines -/
def RowL (w : World) (g : Nat) (ls : List Ln) : Prop := w.heap[g]? = some (.cells (lcells ls).toArray 39 (0, 0))
theorem RowL.lt {w : World} {g : Nat} {ls : List Ln} (h : RowL w g ls) : g < w.heap.size := by
  rcases Nat.lt_or_ge g w.heap.size with hlt | hge
  · exact hlt
  · unfold RowL at h; rw [Array.getElem?_eq_none hge] at h; cases h
theorem RowL.keep {a b : World} {g : Nat} {ls : List Ln} (h : RowL a g ls) (k : Grows a b) : RowL b g ls := (k.block g h.lt).trans h
theorem RowL.own {w : World} {g base : Nat} {ls : List Ln} (h : RowL w g ls) (hb : base ≤ g) (hm : ls.length ≤ 4194304) : OwnL w base (.slice (some ⟨g, 0, none⟩) ls.length ls.length) ls :=
  ⟨lcells_length ls, .inr ⟨g, ls.length, (lcells ls).toArray, rfl, hb, h, Nat.le_refl _, by unfold maxLen; omega, by simp [lcells_length], by rw [List.toList_toArray, ← lcells_length, List.take_length]⟩⟩
theorem zeros_cells (n : Nat) : (madeCells Ln.zero.agg.cells (n * 6)).toList = lcells (List.replicate n Ln.zero) := by
  apply List.ext_getElem?
  intro i
  by_cases hi : i < n * 6
  · have h1 : i / 6 < (List.replicate n Ln.zero).length := by simp; omega
    have h2 := lcells_get (List.replicate n Ln.zero) (i / 6) h1 (i % 6) (Nat.mod_lt _ (by omega))
    rw [show i / 6 * 6 + i % 6 = i from by omega] at h2
    rw [h2]
    have h3 : i % 6 < 6 := Nat.mod_lt _ (by omega)
    have hz : Ln.zero.agg.cells = #[.int .i64 0, .string ⟨#[]⟩, .string ⟨#[]⟩, .string ⟨#[]⟩, .string ⟨#[]⟩, .string ⟨#[]⟩] := rfl
    simp only [List.getElem_replicate]
    have hc : lcell Ln.zero = [.int .i64 0, .string ⟨#[]⟩, .string ⟨#[]⟩, .string ⟨#[]⟩, .string ⟨#[]⟩, .string ⟨#[]⟩] := rfl
    rw [hc, hz]
    obtain ⟨r, hr⟩ : ∃ r, i % 6 = r := ⟨_, rfl⟩
    have hsz : (#[.int .i64 0, .string ⟨#[]⟩, .string ⟨#[]⟩, .string ⟨#[]⟩, .string ⟨#[]⟩, .string ⟨#[]⟩] : Array Value).size = 6 := rfl
    have hm : ∀ Z : Array Value, (madeCells Z (n * 6)).toList[i]? = some (Z[i % Z.size]!) := fun Z => by simp [madeCells, hi]
    rw [hm, hsz, hr]
    rw [hr] at h3
    match r, h3 with
    | 0, _ => rfl
    | 1, _ => rfl
    | 2, _ => rfl
    | 3, _ => rfl
    | 4, _ => rfl
    | 5, _ => rfl
  · rw [List.getElem?_eq_none (by simp [size_madeCells]; omega), List.getElem?_eq_none (by rw [lcells_length]; simp; omega)]
theorem RowL.zeros (w : World) (n : Nat) : RowL (w.alloc (.cells (madeCells Ln.zero.agg.cells (n * 6)) 39)) w.heap.size (List.replicate n Ln.zero) := by
  unfold RowL
  rw [heap_alloc_new, ← zeros_cells]

theorem run_copyL (w : World) (ty : TypeId) (g off dLen dCap b o sLen sCap : Nat) (X ms : List Ln) (hg : RowL w g X) (hsrc : ∀ j u, (lcells ms)[j]? = some u → w.cell? ((⟨b, o, none⟩ : Addr).add j) = some u)
    (hm : ms.length = Nat.min sLen dLen) (hfit : off + ms.length ≤ X.length) :
    (Builtin.copy_ #[23, 23] ty #[.slice (some ⟨g, off * 6, none⟩) dLen dCap, .slice (some ⟨b, o, none⟩) sLen sCap]).run Try.prog w =
      .ok (goInt ms.length) (w.setRow g (lcells (lay X off ms)).toArray) := by
  have hl := run_loadCells_list (P := Try.prog) w ⟨b, o, none⟩ (lcells ms) hsrc
  have hst := run_storeCells_at Try.prog g (off * 6) 39 (lcells ms) 0 (lcells X).toArray w hg (by simp [lcells_length]; omega) (lcells_one ms)
  obtain ⟨i0, hi, hz0, hz1, hz2⟩ := info_parts infoLine
  rw [lcells_length] at hl
  rw [lcells_length, Nat.add_zero, List.append_assoc, lay_cells hfit] at hst
  simp [Builtin.copy_, run_underlying Try.underlying23, Builtin.lenOf, Builtin.firstCells, sizeOf, typeInfo, hi, hz1, ← hm, hl, hst]
theorem run_copyL_none (w : World) (ty : TypeId) (d s : Option Addr) (dLen dCap sLen sCap : Nat) (hm : Nat.min sLen dLen = 0) :
    (Builtin.copy_ #[23, 23] ty #[.slice d dLen dCap, .slice s sLen sCap]).run Try.prog w = .ok (goInt 0) w := by
  obtain ⟨i0, hi, hz0, hz1, hz2⟩ := info_parts infoLine
  have hl : ∀ (x : Addr), (loadCells x 0).run Try.prog w = .ok #[] w := fun x => by simpa using run_loadCells_list (P := Try.prog) w x [] (by simp)
  cases d <;> cases s <;> simp [Builtin.copy_, run_underlying Try.underlying23, Builtin.lenOf, Builtin.firstCells, sizeOf, typeInfo, hi, hm, storeCells, hl]

theorem grown_setRow (w : World) (g : Nat) (cs : Array Value) : w.grownBy (w.setRow g cs) (some g) :=
  ⟨rfl, rfl, rfl, by simp [World.setRow], fun k _ hne => setRow_other w g k cs (fun e => hne (by rw [e]))⟩

/-- copy onto a row that is known whole -/
theorem copyL {w : World} {ops : Array Oper} {rest : List Oper} {o : Oper} {a : Act} {Q : Exit → Act → World → Prop} (hgd : o.guard = none) (d s : Operand)
    (ho : o.op = .call { callee := .builtin .copy, args := #[d, s], argTypes := #[23, 23] })
    (g off : Nat) (X ms : List Ln) (hg : RowL w g X) (dp sp : Option Addr) (dLen dCap sLen sCap : Nat) (hd : a.eval d = .slice dp dLen dCap) (hs : a.eval s = .slice sp sLen sCap)
    (hm : ms.length = Nat.min sLen dLen) (hpos : 0 < ms.length → dp = some ⟨g, off * 6, none⟩) (hsrc : LnsAt w sp ms) (hfit : off + ms.length ≤ X.length)
    (h : ∀ w', Hid (RowL w' g (lay X off ms)) → Hid (w.grownBy w' (some g)) → wpList Try.prog ops Q rest (a.put o.dst (goInt ms.length)) w') : wpList Try.prog ops Q (o :: rest) a w := by
  rcases Nat.eq_zero_or_pos ms.length with h0 | h0
  · obtain rfl : ms = [] := List.eq_nil_of_length_eq_zero h0
    refine wpList_plain hgd fun K hK => ?_
    have hrun := run_copyL_none w o.type dp sp dLen dCap sLen sCap (by simpa using hm.symm)
    unfold Oper.wp
    simp [execOp, ho, resolve, invoke, builtin, hd, hs, hrun, Result.andThen]
    exact hK _ _ (h w (show RowL _ _ _ by rw [lay_nil]; exact hg) (World.grownBy.refl _ _))
  · obtain rfl := hpos h0
    obtain ⟨b, oo, rfl, hb, hc⟩ := hsrc h0
    refine wpList_plain hgd fun K hK => ?_
    have hrun := run_copyL w o.type g off dLen dCap b oo sLen sCap X ms hg (LnsAt.cells hc) hm hfit
    unfold Oper.wp
    simp [execOp, ho, resolve, invoke, builtin, hd, hs, hrun, Result.andThen]
    exact hK _ _ (h _ (setRow_heap w g _ _ _ _ hg) (grown_setRow _ _ _))
end Go.Proofs.Ytdedidcjbocicaa
