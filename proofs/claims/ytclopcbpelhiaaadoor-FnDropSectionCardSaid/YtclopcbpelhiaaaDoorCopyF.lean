/-
  Rows of lines known whole, and the builtin copy onto them. Condition: the copied lines fit.
  Lines cut out of a file: cutLines of the program, at the indices that meet a test. Condition: at most 1048576 lines.
  A file without a key: DropKey of the program and of the specification. Conditions: at most 1048576 bytes in all.
  The heads of a section: headsOf of the program, placeFor and headAt of the specification. Conditions: at most 1048576 bytes in all.
  Copies of lines, lines with other names, and the test of a new file: copyLines, nameLines, validLines of the program, copyLines, checkedFile of the specification. Conditions: at most 1048576 lines, parts no longer than a text may be.
-/
import Derived.Test.YtclopcbpelhiaaaDoorGrow
import Derived.Laws.CopyRow
import Derived.Laws.CopyOwn
import Derived.Test.YtclopcbpelhiaaaDoorQP
namespace Go.Proofs.YtclopcbpelhiaaaDoor
open Go.RowKit

theorem lcells_take (X : List Ln) (k : Nat) (hk : k ≤ X.length) : (lcells X).take (k * 6) = lcells (X.take k) := by
  have e : lcells X = lcells (X.take k) ++ lcells (X.drop k) := by rw [← lcells_append, List.take_append_drop]
  rw [e, List.take_left' (by rw [lcells_length, List.length_take, Nat.min_eq_left hk])]
theorem lcells_drop (X : List Ln) (k : Nat) (hk : k ≤ X.length) : (lcells X).drop (k * 6) = lcells (X.drop k) := by
  have e : lcells X = lcells (X.take k) ++ lcells (X.drop k) := by rw [← lcells_append, List.take_append_drop]
  rw [e, List.drop_left' (by rw [lcells_length, List.length_take, Nat.min_eq_left hk])]
/-- ms laid over X from place off on -/
def lay (X : List Ln) (off : Nat) (ms : List Ln) : List Ln := X.take off ++ (ms ++ X.drop (off + ms.length))
theorem lay_length {X : List Ln} {off : Nat} {ms : List Ln} (h : off + ms.length ≤ X.length) : (lay X off ms).length = X.length := by
  simp [lay]; omega
theorem lay_cells {X : List Ln} {off : Nat} {ms : List Ln} (h : off + ms.length ≤ X.length) : (lcells X).take (off * 6) ++ (lcells ms ++ (lcells X).drop (off * 6 + ms.length * 6)) = lcells (lay X off ms) := by
  rw [lay, lcells_append, lcells_append, lcells_take X off (by omega), ← lcells_drop X (off + ms.length) h, Nat.add_mul]
theorem lay_nil (X : List Ln) (off : Nat) : lay X off [] = X := by simp [lay]

/-- block g is a row of just these lines -/
def RowL (w : World) (g : Nat) (ls : List Ln) : Prop := w.heap[g]? = some (.cells (lcells ls).toArray 60 (0, 0))
theorem RowL.lt {w : World} {g : Nat} {ls : List Ln} (h : RowL w g ls) : g < w.heap.size := by
  rcases Nat.lt_or_ge g w.heap.size with hlt | hge
  · exact hlt
  · unfold RowL at h; rw [Array.getElem?_eq_none hge] at h; cases h
theorem RowL.keep {a b : World} {g : Nat} {ls : List Ln} (h : RowL a g ls) (k : Grows a b) : RowL b g ls := (k.block g h.lt).trans h
theorem RowL.own {w : World} {g base : Nat} {ls : List Ln} (h : RowL w g ls) (hb : base ≤ g) (hm : ls.length ≤ 4194304) : OwnL w base (.slice (some ⟨g, 0, none⟩) ls.length ls.length) ls :=
  ⟨lcells_length ls, .inr ⟨g, ls.length, (lcells ls).toArray, rfl, hb, h, Nat.le_refl _, by unfold maxLen; omega, by simp [lcells_length], by rw [List.toList_toArray, ← lcells_length, List.take_length]⟩⟩
theorem zeros_cells (n : Nat) : (madeCells Ln.zero.agg.cells (n * 6)).toList = lcells (List.replicate n Ln.zero) := by
  apply List.ext_getElem?
  intro i
  by_cases hi : i < n * 6
  · have h1 : i / 6 < (List.replicate n Ln.zero).length := by simp; omega
    have h2 := lcells_get (List.replicate n Ln.zero) (i / 6) h1 (i % 6) (Nat.mod_lt _ (by omega))
    rw [show i / 6 * 6 + i % 6 = i from by omega] at h2
    rw [h2]
    have h3 : i % 6 < 6 := Nat.mod_lt _ (by omega)
    have hz : Ln.zero.agg.cells = #[.int .i64 0, .string ⟨#[]⟩, .string ⟨#[]⟩, .string ⟨#[]⟩, .string ⟨#[]⟩, .string ⟨#[]⟩] := rfl
    simp only [List.getElem_replicate]
    have hc : lcell Ln.zero = [.int .i64 0, .string ⟨#[]⟩, .string ⟨#[]⟩, .string ⟨#[]⟩, .string ⟨#[]⟩, .string ⟨#[]⟩] := rfl
    rw [hc, hz]
    obtain ⟨r, hr⟩ : ∃ r, i % 6 = r := ⟨_, rfl⟩
    have hsz : (#[.int .i64 0, .string ⟨#[]⟩, .string ⟨#[]⟩, .string ⟨#[]⟩, .string ⟨#[]⟩, .string ⟨#[]⟩] : Array Value).size = 6 := rfl
    have hm : ∀ Z : Array Value, (madeCells Z (n * 6)).toList[i]? = some (Z[i % Z.size]!) := fun Z => by simp [madeCells, hi]
    rw [hm, hsz, hr]
    rw [hr] at h3
    match r, h3 with
    | 0, _ => rfl
    | 1, _ => rfl
    | 2, _ => rfl
    | 3, _ => rfl
    | 4, _ => rfl
    | 5, _ => rfl
  · rw [List.getElem?_eq_none (by simp [size_madeCells]; omega), List.getElem?_eq_none (by rw [lcells_length]; simp; omega)]
theorem RowL.zeros (w : World) (n : Nat) : RowL (w.alloc (.cells (madeCells Ln.zero.agg.cells (n * 6)) 60)) w.heap.size (List.replicate n Ln.zero) := by
  unfold RowL
  rw [heap_alloc_new, ← zeros_cells]

theorem run_copyL (w : World) (ty : TypeId) (g off dLen dCap b o sLen sCap : Nat) (X ms : List Ln) (hg : RowL w g X) (hsrc : ∀ j u, (lcells ms)[j]? = some u → w.cell? ((⟨b, o, none⟩ : Addr).add j) = some u)
    (hm : ms.length = Nat.min sLen dLen) (hfit : off + ms.length ≤ X.length) :
    (Builtin.copy_ #[23, 23] ty #[.slice (some ⟨g, off * 6, none⟩) dLen dCap, .slice (some ⟨b, o, none⟩) sLen sCap]).run Tryd.prog w =
      .ok (goInt ms.length) (w.setRow g (lcells (lay X off ms)).toArray) := by
  have hl := run_loadCells_list (P := Tryd.prog) w ⟨b, o, none⟩ (lcells ms) hsrc
  have hst := run_storeCells_at Tryd.prog g (off * 6) 60 (lcells ms) 0 (lcells X).toArray w hg (by simp [lcells_length]; omega) (lcells_one ms)
  obtain ⟨i0, hi, hz0, hz1, hz2⟩ := info_parts infoLine
  rw [lcells_length] at hl
  rw [lcells_length, Nat.add_zero, List.append_assoc, lay_cells hfit] at hst
  simp [Builtin.copy_, run_underlying Tryd.underlying23, Builtin.lenOf, Builtin.firstCells, sizeOf, typeInfo, hi, hz1, ← hm, hl, hst]
theorem run_copyL_none (w : World) (ty : TypeId) (d s : Option Addr) (dLen dCap sLen sCap : Nat) (hm : Nat.min sLen dLen = 0) :
    (Builtin.copy_ #[23, 23] ty #[.slice d dLen dCap, .slice s sLen sCap]).run Tryd.prog w = .ok (goInt 0) w := by
  obtain ⟨i0, hi, hz0, hz1, hz2⟩ := info_parts infoLine
  have hl : ∀ (x : Addr), (loadCells x 0).run Tryd.prog w = .ok #[] w := fun x => by simpa using run_loadCells_list (P := Tryd.prog) w x [] (by simp)
  cases d <;> cases s <;> simp [Builtin.copy_, run_underlying Tryd.underlying23, Builtin.lenOf, Builtin.firstCells, sizeOf, typeInfo, hi, hm, storeCells, hl]

theorem grown_setRow (w : World) (g : Nat) (cs : Array Value) : w.grownBy (w.setRow g cs) (some g) :=
  ⟨rfl, rfl, rfl, by simp [World.setRow], fun k _ hne => setRow_other w g k cs (fun e => hne (by rw [e]))⟩

/-- copy onto a row that is known whole -/
theorem copyL {w : World} {ops : Array Oper} {rest : List Oper} {o : Oper} {a : Act} {Q : Exit → Act → World → Prop} (hgd : o.guard = none) (d s : Operand)
    (ho : o.op = .call { callee := .builtin .copy, args := #[d, s], argTypes := #[23, 23] })
    (g off : Nat) (X ms : List Ln) (hg : RowL w g X) (dp sp : Option Addr) (dLen dCap sLen sCap : Nat) (hd : a.eval d = .slice dp dLen dCap) (hs : a.eval s = .slice sp sLen sCap)
    (hm : ms.length = Nat.min sLen dLen) (hpos : 0 < ms.length → dp = some ⟨g, off * 6, none⟩) (hsrc : LnsAt w sp ms) (hfit : off + ms.length ≤ X.length)
    (h : ∀ w', Hid (RowL w' g (lay X off ms)) → Hid (w.grownBy w' (some g)) → wpList Tryd.prog ops Q rest (a.put o.dst (goInt ms.length)) w') : wpList Tryd.prog ops Q (o :: rest) a w := by
  rcases Nat.eq_zero_or_pos ms.length with h0 | h0
  · obtain rfl : ms = [] := List.eq_nil_of_length_eq_zero h0
    refine wpList_plain hgd fun K hK => ?_
    have hrun := run_copyL_none w o.type dp sp dLen dCap sLen sCap (by simpa using hm.symm)
    unfold Oper.wp
    simp [execOp, ho, resolve, invoke, builtin, hd, hs, hrun, Result.andThen]
    exact hK _ _ (h w (show RowL _ _ _ by rw [lay_nil]; exact hg) (World.grownBy.refl _ _))
  · obtain rfl := hpos h0
    obtain ⟨b, oo, rfl, hb, hc⟩ := hsrc h0
    refine wpList_plain hgd fun K hK => ?_
    have hrun := run_copyL w o.type g off dLen dCap b oo sLen sCap X ms hg (LnsAt.cells hc) hm hfit
    unfold Oper.wp
    simp [execOp, ho, resolve, invoke, builtin, hd, hs, hrun, Result.andThen]
    exact hK _ _ (h _ (setRow_heap w g _ _ _ _ hg) (grown_setRow _ _ _))
end Go.Proofs.YtclopcbpelhiaaaDoor
namespace Go.Proofs.YtclopcbpelhiaaaDoor
open Go.RowKit

/-- the lines among the first k that do not meet the test -/
def keepL (ls : List Ln) (P : Nat → Bool) (k : Nat) : List Ln := ((List.range k).filter fun i => !P i).map fun i => ls[i]!
theorem keepL_yes {ls : List Ln} {P : Nat → Bool} {k : Nat} (h : P k = true) : keepL ls P (k + 1) = keepL ls P k := by
  unfold keepL; rw [List.range_succ, List.filter_append]; simp [h]
theorem keepL_no {ls : List Ln} {P : Nat → Bool} {k : Nat} (h : P k = false) : keepL ls P (k + 1) = keepL ls P k ++ [ls[k]!] := by
  unfold keepL; rw [List.range_succ, List.filter_append]; simp [h]
theorem keepL_le (ls : List Ln) (P : Nat → Bool) (k : Nat) : (keepL ls P k).length ≤ k := by
  unfold keepL
  rw [List.length_map]
  exact Nat.le_trans (List.length_filter_le _ _) (by simp)
/-- the indices from k on that meet the test -/
def restI (P : Nat → Bool) (n k : Nat) : List Nat := (List.range' k (n - k)).filter P
theorem restI_yes {P : Nat → Bool} {n k : Nat} (hk : k < n) (h : P k = true) : restI P n k = k :: restI P n (k + 1) := by
  unfold restI
  rw [show n - k = (n - (k + 1)) + 1 from by omega, List.range'_succ, List.filter_cons, if_pos h]
theorem restI_no {P : Nat → Bool} {n k : Nat} (hk : k < n) (h : P k = false) : restI P n k = restI P n (k + 1) := by
  unfold restI
  rw [show n - k = (n - (k + 1)) + 1 from by omega, List.range'_succ, List.filter_cons, if_neg (by rw [h]; simp)]
theorem restI_ge {P : Nat → Bool} {n k i : Nat} (h : i ∈ restI P n k) : k ≤ i := by
  unfold restI at h
  have := (List.mem_filter.1 h).1
  rw [List.mem_range'_1] at this
  exact this.1
theorem restI_head {P : Nat → Bool} {n k : Nat} (h : P k = false) (hk : k < n) (h0 : 0 < (restI P n k).length) : (restI P n k)[0] ≠ k := by
  intro e
  have hm : (restI P n k)[0] ∈ restI P n (k + 1) := by rw [← restI_no hk h]; exact List.getElem_mem _
  have := restI_ge hm
  omega
theorem restI_zero (P : Nat → Bool) (n : Nat) : restI P n 0 = (List.range n).filter P := by
  unfold restI; rw [Nat.sub_zero, List.range_eq_range']
theorem restI_le (P : Nat → Bool) (n k : Nat) : (restI P n k).length ≤ n - k := by
  unfold restI
  exact Nat.le_trans (List.length_filter_le _ _) (by simp)

/-- a call's end: it returns lines in a row of the call's own -/
def RetL (ls : List Ln) (w : World) (e : Ending) (w' : World) : Prop := ∃ v, e = .returned v ∧ OwnL w' w.heap.size v ls ∧ Grows w w'
theorem OwnL.made (w : World) (c : Nat) (base : Nat) (hb : base ≤ w.heap.size) (hc : c ≤ 1048576) : OwnL (w.alloc (.cells (madeCells Ln.zero.agg.cells (c * 6)) 60)) base (.slice (some ⟨w.heap.size, 0, none⟩) 0 c) [] :=
  ⟨rfl, .inr ⟨w.heap.size, c, _, rfl, hb, heap_alloc_new w _, Nat.zero_le _, by unfold maxLen; omega, size_madeCells _ _, rfl⟩⟩

theorem one_newsA (w : World) (l : Ln) (t : TypeId) {p : Nat} (hp : w.heap.size = p) : ∀ j u, (lcells [l])[j]? = some u → (w.alloc (.cells #[.int .i64 l.k, .string l.le, .string l.na, .string l.se, .string l.va, .string l.ta] t)).cell? ((⟨p, 0, none⟩ : Addr).add j) = some u := fun j u hj => by
  subst hp
  exact World.news_of_block (heap_alloc_new w _) j u (by simpa [lcells, lcell] using hj)
/-- the cells lie in another block than the row that turns -/
theorem ValsAt.farV {w w' : World} {A : Option Addr} {xs : List Value} {row : Option Nat} (h : ValsAt w A xs) (g : w.grownBy w' row) (hne : ∀ b, row = some b → ∀ o, A ≠ some ⟨b, o, none⟩) : ValsAt w' A xs := fun h0 => by
  obtain ⟨b, o, e, hb, hc⟩ := h h0
  refine ⟨b, o, e, Nat.lt_of_lt_of_le hb g.size, fun i hi => ?_⟩
  rw [g.cell_far ⟨b, o + i, none⟩ hb (fun e2 => hne b e2.symm o e)]
  exact hc i hi

set_option maxRecDepth 100000 in
set_option maxHeartbeats 4000000 in
theorem cutLines_any (A I : Option Addr) (c ci : Nat) (ls : List Ln) (P : Nat → Bool) (w : World) (hn : ls.length ≤ 1048576) (hA : LnsAt w A ls) (hI : ValsAt w I (ints ((List.range ls.length).filter P))) (hci : ((List.range ls.length).filter P).length ≤ ci) :
    Calls Tryd.prog 27 #[.slice A ls.length c, .slice I ((List.range ls.length).filter P).length ci] w (RetL (keepL ls P ls.length) w) := by
  have HA := Lib.hid hA
  rw [← restI_zero] at hI hci ⊢
  have HI := Lib.hid hI
  have hle := restI_le P ls.length 0
  have HCI := Lib.hid hci
  clear hA hI hci
  obtain ⟨n, hnn⟩ : ∃ n, ls.length = n := ⟨_, rfl⟩
  rw [hnn] at hn HI HCI hle ⊢
  have HN := Lib.hid hnn
  clear hnn
  obtain ⟨m, hmm⟩ : ∃ m, (restI P n 0).length = m := ⟨_, rfl⟩
  rw [hmm] at hle HCI ⊢
  have HM := Lib.hid hmm
  clear hmm
  obtain ⟨d, hd⟩ : ∃ d, n = m + d := ⟨n - m, by omega⟩
  have hdn : d ≤ 1048576 := by omega
  obtain ⟨i0, hi, hz0, hz1, hz2⟩ := info_parts infoLine
  have hmk : ∀ W, (Instr.makeSlice 23 (.int .i64 0) (.int .i64 ((n : Int) - (m : Int)))).run Tryd.prog W = .ok (.slice (some ⟨W.heap.size, 0, none⟩) 0 d) (W.alloc (.cells (madeCells Ln.zero.agg.cells (d * 6)) 60)) := fun W => by
    have h := run_make_rowN (P := Tryd.prog) 23 60 i0 _ Tryd.underlying23 hi hz0 .i64 .i64 0 d (Nat.zero_le _) (by rw [hz2]; omega) (by omega) W
    rw [hz1, show ((d : Nat) : Int) = (n : Int) - (m : Int) from by omega] at h
    exact h
  have hsub0 : (0 : Int) ≤ (n : Int) - (m : Int) := by omega
  have hsub1 : (n : Int) - (m : Int) ≤ 1048576 := by omega
  clear hi hz0 hz1 hz2
  obtain ⟨M, hM⟩ : ∃ M, madeCells Ln.zero.agg.cells (d * 6) = M := ⟨_, rfl⟩
  rw [hM] at hmk
  have HO0 : Hid (OwnL (w.alloc (.cells M 60)) w.heap.size (.slice (some ⟨w.heap.size, 0, none⟩) 0 d) []) := by rw [← hM]; exact OwnL.made w d _ (Nat.le_refl _) hdn
  have HD := Lib.hid hd
  clear hM hd
  go_enter Tryd.func27, Tryd.ntmps27
  go_wp2_with fail
  go_loopw [1, 5, 16] (fun q v i wr => ∃ (k : Nat) (I' : Option Addr) (c' : Nat) (K : List Ln), k ≤ n ∧ i = .int .i64 k ∧ q = .slice I' (restI P n k).length c' ∧ Hid (ValsAt w I' (ints (restI P n k))) ∧ Hid ((restI P n k).length ≤ c') ∧ Hid (K = keepL ls P k) ∧ K.length ≤ k ∧ Hid (OwnL wr w.heap.size v K) ∧ Hid (Grows w wr)) (fun _ _ i _ => n - (intOf i).toNat)
  case atStart => exact ⟨0, I, ci, [], Nat.zero_le _, rfl, by rw [HM.out], HI.out, by rw [HM.out]; exact HCI.out, rfl, Nat.zero_le _, HO0.out, (Grows.refl _).alloc _⟩
  case round =>
    obtain ⟨k, I', c', K, hk, rfl, rfl, HV, HC, HK, hKk, HO, HG⟩ := hrel
    obtain ⟨p, hp⟩ : ∃ p, (restI P n k).length = p := ⟨_, rfl⟩
    rw [hp] at HC ⊢
    by_cases hlt : k < n
    · obtain ⟨b, o, rfl, hb, hc⟩ := HA.out (by rw [HN.out]; omega)
      have hk2 : k < ls.length := by rw [HN.out]; exact hlt
      have hsu := get_bang hk2
      obtain ⟨l, hl⟩ : ∃ l, ls[k] = l := ⟨_, rfl⟩
      have hat := (hc k hk2).keep hb HG.out
      rw [hl] at hat hsu
      obtain ⟨c0, c1, c2, c3, c4, c5⟩ := hat
      clear hc hl
      by_cases hP : P k = true
      · have HS := Lib.hid (restI_yes hlt hP)
        have HK2 : Hid (keepL ls P (k + 1) = K) := by unfold Hid; rw [keepL_yes hP, HK.out]
        have hp1 : 0 < p := by rw [← hp, HS.out]; simp
        have hpl : (restI P n (k + 1)).length = p - 1 := by rw [← hp, HS.out]; simp
        have HPL := Lib.hid hpl
        obtain ⟨b2, o2, rfl, hb2, hc2⟩ := HV.out (by rw [ints_length, hp]; exact hp1)
        have d0 := hc2 0 (by rw [ints_length, hp]; exact hp1)
        have hix : (ints (restI P n k))[0]'(by rw [ints_length, hp]; exact hp1) = Value.int .i64 (k : Int) := by simp [HS.out, ints]
        rw [hix, Nat.add_zero] at d0
        have d1 := (HG.out.cell (p := ⟨b2, o2, none⟩) hb2).trans d0
        have hb2r := Nat.lt_of_lt_of_le hb2 HG.out.size
        have hcp := HC.out
        have HVS : Hid (∀ j (h : j < (restI P n (k + 1)).length), w.cell? ⟨b2, o2 + 1 + j, none⟩ = some (.int .i64 ((restI P n (k + 1))[j] : Int))) := fun j h => by
          have h9 := hc2 (j + 1) (by rw [ints_length, HS.out]; simpa using h)
          have e9 : (ints (restI P n k))[j + 1]'(by rw [ints_length, HS.out]; simpa using h) = Value.int .i64 ((restI P n (k + 1))[j] : Int) := by simp [HS.out, ints]
          rw [e9, show o2 + (j + 1) = o2 + 1 + j from by omega] at h9
          exact h9
        have HB2 := Lib.hid hb2
        clear hc2 hix hP hpl hp hsu d0
        by_cases hc1 : c' = 1
        · subst hc1
          have hp2 : p = 1 := by omega
          subst hp2
          go_wp2
          go_roundw
          case rel => exact ⟨k + 1, some ⟨b2, o2, none⟩, 0, K, by omega, by go_num, by rw [HPL.out], fun h => absurd h (by rw [ints_length, HPL.out]; simp), by rw [HPL.out]; exact Nat.le_refl _, HK2.out.symm, by omega, by repeat (first | exact HO.out | exact HO.out.keep (by repeat (first | exact Grows.refl _ | refine Grows.alloc ?_ _))), by repeat (first | exact HG.out | refine Grows.alloc ?_ _)⟩
          case measure => simp [intOf]; omega
        · go_wp2
          go_roundw
          case rel => exact ⟨k + 1, some ⟨b2, o2 + 1, none⟩, c' - 1, K, by omega, by go_num, by rw [HPL.out], fun _ => ⟨b2, o2 + 1, rfl, HB2.out, fun i hi => (HVS.out i (by rw [ints_length] at hi; exact hi)).trans (by simp [ints])⟩, by have h9 := HPL.out; unfold Hid; omega, HK2.out.symm, by omega, by repeat (first | exact HO.out | exact HO.out.keep (by repeat (first | exact Grows.refl _ | refine Grows.alloc ?_ _))), by repeat (first | exact HG.out | refine Grows.alloc ?_ _)⟩
          case measure => simp [intOf]; omega
      · have hP' : P k = false := by simpa using hP
        have HS := Lib.hid (restI_no hlt hP')
        have HK2 : Hid (keepL ls P (k + 1) = K ++ [l]) := by unfold Hid; rw [keepL_no hP', HK.out, hsu]
        have HPL : Hid ((restI P n (k + 1)).length = p) := by unfold Hid; rw [← HS.out]; exact hp
        have HV3 : Hid (ValsAt w I' (ints (restI P n (k + 1)))) := by rw [← HS.out]; exact HV.out
        have hh := restI_head hP' hlt
        rcases Nat.eq_zero_or_pos p with hp0 | hp0
        · subst hp0
          clear hP hP' hh hp hsu
          go_wp2_with (at_builtin; refine appLs rfl _ _ rfl w.heap.size _ K rfl ((HO.out.keep ((Grows.refl _).alloc _)).keep ((Grows.refl _).alloc _)) ⟨wr.heap.size + 1, 0, none⟩ 1 1 [l] rfl rfl (by omega) (one_newsA _ _ _ (by simp)) (by omega) (by omega) (Nat.le_trans HG.out.size (by simp; omega)) ?_)
          intro v' w2 HO2 HGB HNE
          have HG2 : Hid (Grows w w2) := ((HG.out.alloc _).alloc _).mark HGB.out (fun k hk => (HO.out.lt k hk).1)
          clear HGB HNE
          go_wp2
          go_roundw
          case rel => exact ⟨k + 1, I', c', K ++ [l], by omega, by go_num, by rw [HPL.out], HV3.out, by rw [HPL.out]; exact HC.out, HK2.out.symm, by simp; omega, HO2.out, HG2.out⟩
          case measure => simp [intOf]; omega
        · obtain ⟨b2, o2, rfl, hb2, hc2⟩ := HV.out (by rw [ints_length, hp]; exact hp0)
          have d0 := hc2 0 (by rw [ints_length, hp]; exact hp0)
          have hix : (ints (restI P n k))[0]'(by rw [ints_length, hp]; exact hp0) = Value.int .i64 ((restI P n k)[0]'(by rw [hp]; exact hp0) : Int) := by simp [ints]
          rw [hix, Nat.add_zero] at d0
          have d1 := (HG.out.cell (p := ⟨b2, o2, none⟩) hb2).trans d0
          have hb2r := Nat.lt_of_lt_of_le hb2 HG.out.size
          have hne := hh (by rw [hp]; exact hp0)
          obtain ⟨x, hx⟩ : ∃ x, (restI P n k)[0]'(by rw [hp]; exact hp0) = x := ⟨_, rfl⟩
          rw [hx] at d1 hne
          have hne2 : ((x : Int) == (k : Int)) = false := by rw [beq_eq_false_iff_ne]; omega
          clear hP hP' hh hp hsu hc2 hix hx d0
          go_wp2_with (at_builtin; refine appLs rfl _ _ rfl w.heap.size _ K rfl ((HO.out.keep ((Grows.refl _).alloc _)).keep ((Grows.refl _).alloc _)) ⟨wr.heap.size + 1, 0, none⟩ 1 1 [l] rfl rfl (by omega) (one_newsA _ _ _ (by simp)) (by omega) (by omega) (Nat.le_trans HG.out.size (by simp; omega)) ?_)
          intro v' w2 HO2 HGB HNE
          have HG2 : Hid (Grows w w2) := ((HG.out.alloc _).alloc _).mark HGB.out (fun k hk => (HO.out.lt k hk).1)
          clear HGB HNE
          go_wp2
          go_roundw
          case rel => exact ⟨k + 1, some ⟨b2, o2, none⟩, c', K ++ [l], by omega, by go_num, by rw [HPL.out], HV3.out, by rw [HPL.out]; exact HC.out, HK2.out.symm, by simp; omega, HO2.out, HG2.out⟩
          case measure => simp [intOf]; omega
    · obtain rfl : k = n := by omega
      go_wp2
      go_ret
      have h9 := HO.out
      rw [HK.out] at h9
      exact ⟨_, rfl, h9, HG.out⟩
end Go.Proofs.YtclopcbpelhiaaaDoor
namespace Go.Proofs.YtclopcbpelhiaaaDoor
open Go.RowKit

/-- the lines without a key's, none if it is not there -/
def dropKL (ls : List Ln) (s key : ByteArray) : List Ln := if whereOf ls s key < 0 then [] else keepL ls (isPair ls s key) ls.length
theorem dropKL_le (ls : List Ln) (s key : ByteArray) (hn : ls.length ≤ 1048576) : (dropKL ls s key).length ≤ 1048576 := by
  unfold dropKL
  split
  · simp
  · exact Nat.le_trans (keepL_le _ _ _) hn
theorem pairs_none {ls : List Ln} {s key : ByteArray} (h : whereOf ls s key < 0) : pairsOf' ls s key = [] := by
  rw [whereOf_eq] at h
  rcases hg : (pairsOf' ls s key).getLast? with _ | i
  · exact List.getLast?_eq_none_iff.1 hg
  · rw [hg] at h; simp at h; omega
theorem pairs_some {ls : List Ln} {s key : ByteArray} (h : ¬ whereOf ls s key < 0) : vfile ls = true ∧ 0 < (pairsOf' ls s key).length := by
  have hv : vfile ls = true := by
    rcases hb : vfile ls with _ | _
    · rw [whereOf_no s key hb] at h; omega
    · rfl
  refine ⟨hv, ?_⟩
  rcases Nat.eq_zero_or_pos (pairsOf' ls s key).length with h0 | h0
  · rw [whereOf_eq, List.eq_nil_of_length_eq_zero h0] at h
    simp at h
  · exact h0
theorem getB_where (ls : List Ln) (s key : ByteArray) : getB ls s key = !decide (whereOf ls s key < 0) := rfl

set_option maxRecDepth 100000 in
set_option maxHeartbeats 4000000 in
theorem implDropKey_any (A : Option Addr) (c : Nat) (ls : List Ln) (s key : ByteArray) (w : World) (hf : AllFit ls) (hA : LnsAt w A ls) :
    Calls Tryd.prog 7 #[.agg #[.slice A ls.length c], .string s, .string key] w (ResLB (dropKL ls s key) (getB ls s key) w) := by
  have HP := Lib.hid (fun w1 (g : Grows w w1) => pairsOf_any A c ls s key w1 hf (hA.keep g))
  have HA := Lib.hid hA
  have hn : ls.length ≤ 1048576 := hf.1
  clear hA hf
  by_cases h0 : whereOf ls s key < 0
  · have HV : Hid (dropKL ls s key = []) := by unfold Hid dropKL; rw [if_pos h0]
    have HB : Hid (getB ls s key = false) := by unfold Hid; rw [getB_where]; simp [h0]
    rw [pairs_none h0] at HP
    clear h0
    obtain ⟨n, hnn⟩ : ∃ n, ls.length = n := ⟨_, rfl⟩
    rw [hnn] at HP ⊢
    clear hnn hn
    go_enter Tryd.func7, Tryd.ntmps7
    go_wp2_with fail
    refine (HP.out _ (((Grows.refl _).alloc _).alloc _)).mono ?_
    rintro e w1 ⟨A1, c1, rfl, _, g1, _⟩
    have HG1 : Hid (Grows w w1) := (((Grows.refl _).alloc _).alloc _).trans g1
    have h1 : w1.cell? ⟨w.heap.size + 1, 0, none⟩ = some (.slice none 0 0) := (g1.cell (p := ⟨w.heap.size + 1, 0, none⟩) (by simp)).trans (by simp)
    have h2 : w1.frozen? ⟨w.heap.size + 1, 0, none⟩ = false := (g1.frozen (p := ⟨w.heap.size + 1, 0, none⟩) (by simp)).trans (by simp)
    clear g1
    have hz : (ints []).length = 0 := rfl
    rw [hz]
    go_wp2
    refine bodyPost_ret (v := .tuple #[.agg #[.slice none 0 0], .bool false]) (by simp [results, Tryd.results7, go_sem, h1]) rfl ?_
    rw [HV.out, HB.out]
    exact ⟨_, rfl, OwnL.nil _ _, HG1.out.setCell (by simp) _⟩
  · have HV : Hid (dropKL ls s key = keepL ls (isPair ls s key) ls.length) := by unfold Hid dropKL; rw [if_neg h0]
    have HB : Hid (getB ls s key = true) := by unfold Hid; rw [getB_where]; simp [h0]
    obtain ⟨hv, hpos⟩ := pairs_some h0
    have HE : Hid (pairsOf' ls s key = (List.range ls.length).filter (isPair ls s key)) := by unfold Hid pairsOf'; rw [if_pos hv]; rfl
    have HC := Lib.hid (fun (I : Option Addr) (ci : Nat) w1 (g : Grows w w1) (h : ValsAt w1 I (ints ((List.range ls.length).filter (isPair ls s key)))) (h2 : ((List.range ls.length).filter (isPair ls s key)).length ≤ ci) => cutLines_any A I c ci ls (isPair ls s key) w1 hn (HA.out.keep g) h h2)
    rw [HE.out] at HP hpos
    clear h0 hv HA HE
    obtain ⟨L, hL⟩ : ∃ L, (List.range ls.length).filter (isPair ls s key) = L := ⟨_, rfl⟩
    rw [hL] at HP HC hpos
    clear hL
    obtain ⟨n, hnn⟩ : ∃ n, ls.length = n := ⟨_, rfl⟩
    rw [hnn] at HP HC HV hn ⊢
    clear hnn
    obtain ⟨m, hm⟩ : ∃ m, L.length = m := ⟨_, rfl⟩
    unfold ValsRet at HP
    rw [ints_length] at HP
    rw [hm] at HP HC hpos
    clear hm
    go_enter Tryd.func7, Tryd.ntmps7
    go_wp2_with fail
    refine (HP.out _ (((Grows.refl _).alloc _).alloc _)).mono ?_
    rintro e w1 ⟨A1, c1, rfl, hv1, g1, hc1⟩
    have HG0 : Hid (Grows ((w.alloc (fbox A n c)).alloc (fbox none 0 0)) w1) := g1
    have HG1 : Hid (Grows w w1) := (((Grows.refl _).alloc _).alloc _).trans g1
    have HC1 := Lib.hid hc1
    have HV1 := Lib.hid hv1
    have hb0 : w1.cell? ⟨w.heap.size, 0, none⟩ = some (.slice A n c) := (g1.cell (p := ⟨w.heap.size, 0, none⟩) (by simp; omega)).trans (by simp)
    clear g1 hc1 hv1
    go_wp2_with fail
    refine (HC.out _ _ _ HG1.out HV1.out HC1.out).mono ?_
    rintro e w2 ⟨v, rfl, ho, g2⟩
    have h1 : w2.cell? ⟨w.heap.size + 1, 0, none⟩ = some (.slice none 0 0) := ((HG0.out.trans g2).cell (p := ⟨w.heap.size + 1, 0, none⟩) (by simp)).trans (by simp [fbox])
    have h2 : w2.frozen? ⟨w.heap.size + 1, 0, none⟩ = false := ((HG0.out.trans g2).frozen (p := ⟨w.heap.size + 1, 0, none⟩) (by simp)).trans (by simp [fbox])
    have hs1 : w.heap.size + 1 < w1.heap.size := Nat.lt_of_lt_of_le (by simp) HG0.out.size
    have HG2 : Hid (Grows w w2) := HG1.out.trans g2
    have HO := Lib.hid ho
    obtain ⟨A2, n2, c2, hv2⟩ := ho.form3
    subst hv2
    clear g2 ho hb0
    go_wp2
    refine bodyPost_ret (v := .tuple #[.agg #[.slice A2 n2 c2], .bool true]) (by simp [results, Tryd.results7, go_sem, h1]) rfl ?_
    rw [HV.out, HB.out]
    exact ⟨_, rfl, (HO.out.setOther hs1 _).less HG1.out.size, HG2.out.setCell (by simp) _⟩

set_option maxRecDepth 100000 in
set_option maxHeartbeats 4000000 in
theorem specDropKey_any (A : Option Addr) (c : Nat) (ls : List Ln) (s key : ByteArray) (w : World) (hf : AllFit ls) (hA : LnsAt w A ls) :
    Calls Tryd.prog 8 #[.agg #[.slice A ls.length c], .string s, .string key] w (ResLB (dropKL ls s key) (getB ls s key) w) := by
  have HF := Lib.hid (fun w1 (g : Grows w w1) => specFile_any A c ls w1 hf (hA.keep g))
  have HLP := Lib.hid (fun w1 (g : Grows w w1) => lastPair_any A c ls s key w1 hf.1 (hA.keep g))
  have HSA := Lib.hid (fun (i : Nat) (h : i < ls.length) w1 (g : Grows w w1) => sectionAt_any A c ls i w1 hf.1 h (hA.keep g))
  have HA := Lib.hid hA
  have hn : ls.length ≤ 1048576 := hf.1
  clear hA hf
  by_cases hv : vfile ls = true
  · rw [hv] at HF
    rw [← whereOf_yes s key hv] at HLP
    clear hv
    by_cases h0 : whereOf ls s key < 0
    · have HV : Hid (dropKL ls s key = []) := by unfold Hid dropKL; rw [if_pos h0]
      have HB : Hid (getB ls s key = false) := by unfold Hid; rw [getB_where]; simp [h0]
      obtain ⟨q, hq⟩ : ∃ q, whereOf ls s key = q := ⟨_, rfl⟩
      rw [hq] at HLP h0
      clear hq
      go_enter Tryd.func8, Tryd.ntmps8
      go_wp2_with fail
      refine (HF.out _ (((Grows.refl _).alloc _).alloc _)).mono ?_
      rintro e w1 ⟨rfl, g1⟩
      have HG0 : Hid (Grows ((w.alloc (fbox A ls.length c)).alloc (fbox none 0 0)) w1) := g1
      have HG1 : Hid (Grows w w1) := (((Grows.refl _).alloc _).alloc _).trans g1
      have hb0 : w1.cell? ⟨w.heap.size, 0, none⟩ = some (.slice A ls.length c) := (g1.cell (p := ⟨w.heap.size, 0, none⟩) (by simp; omega)).trans (by simp)
      clear g1
      go_wp2_with fail
      refine (HLP.out _ HG1.out).mono ?_
      rintro e w2 ⟨rfl, g2⟩
      have h1 : w2.cell? ⟨w.heap.size + 1, 0, none⟩ = some (.slice none 0 0) := ((HG0.out.trans g2).cell (p := ⟨w.heap.size + 1, 0, none⟩) (by simp)).trans (by simp [fbox])
      have h2 : w2.frozen? ⟨w.heap.size + 1, 0, none⟩ = false := ((HG0.out.trans g2).frozen (p := ⟨w.heap.size + 1, 0, none⟩) (by simp)).trans (by simp [fbox])
      have HG2 : Hid (Grows w w2) := HG1.out.trans g2
      clear g2 hb0
      go_wp2
      refine bodyPost_ret (v := .tuple #[.agg #[.slice none 0 0], .bool false]) (by simp [results, Tryd.results8, go_sem, h1]) rfl ?_
      rw [HV.out, HB.out]
      exact ⟨_, rfl, OwnL.nil _ _, HG2.out.setCell (by simp) _⟩
    · have HV : Hid (dropKL ls s key = keepL ls (isPair ls s key) ls.length) := by unfold Hid dropKL; rw [if_neg h0]
      have HB : Hid (getB ls s key = true) := by unfold Hid; rw [getB_where]; simp [h0]
      obtain ⟨q, hq⟩ : ∃ q, whereOf ls s key = q := ⟨_, rfl⟩
      rw [hq] at HLP h0
      clear hq
      obtain ⟨n, hnn⟩ : ∃ n, ls.length = n := ⟨_, rfl⟩
      rw [hnn] at HF HLP HV HSA hn ⊢
      have HN := Lib.hid hnn
      clear hnn
      go_enter Tryd.func8, Tryd.ntmps8
      go_wp2_with fail
      refine (HF.out _ (((Grows.refl _).alloc _).alloc _)).mono ?_
      rintro e w1 ⟨rfl, g1⟩
      have HG0 : Hid (Grows ((w.alloc (fbox A n c)).alloc (fbox none 0 0)) w1) := g1
      have HG1 : Hid (Grows w w1) := (((Grows.refl _).alloc _).alloc _).trans g1
      have hb0 : w1.cell? ⟨w.heap.size, 0, none⟩ = some (.slice A n c) := (g1.cell (p := ⟨w.heap.size, 0, none⟩) (by simp; omega)).trans (by simp)
      clear g1
      go_wp2_with fail
      refine (HLP.out _ HG1.out).mono ?_
      rintro e w2 ⟨rfl, g2⟩
      have HG02 : Hid (Grows ((w.alloc (fbox A n c)).alloc (fbox none 0 0)) w2) := HG0.out.trans g2
      have HG2 : Hid (Grows w w2) := HG1.out.trans g2
      have hs2 : w.heap.size + 1 < w2.heap.size := Nat.lt_of_lt_of_le (by simp) HG02.out.size
      clear g2 hb0 HG0 HG1
      go_wp2_with fail
      go_loopw [8, 9] (fun v i wr => ∃ (j : Nat) (K : List Ln), j ≤ n ∧ i = .int .i64 j ∧ Hid (K = keepL ls (isPair ls s key) j) ∧ K.length ≤ j ∧ Hid (OwnL wr w2.heap.size v K) ∧ Hid (Grows w2 wr)) (fun _ i _ => n - (intOf i).toNat)
      case atStart => exact ⟨0, [], Nat.zero_le _, rfl, rfl, Nat.zero_le _, OwnL.empty _ _ (Nat.le_refl _), (Grows.refl _).alloc _⟩
      case round =>
        obtain ⟨j, K, hj, rfl, HK, hKj, HO, HG⟩ := hrel
        have hb0 : wr.cell? ⟨w.heap.size, 0, none⟩ = some (.slice A n c) := ((HG02.out.trans HG.out).cell (p := ⟨w.heap.size, 0, none⟩) (by simp; omega)).trans (by simp [fbox])
        have hs0 : w.heap.size < wr.heap.size := Nat.lt_of_lt_of_le (by omega) HG.out.size
        by_cases hlt : j < n
        · obtain ⟨b, o, rfl, hb, hc⟩ := HA.out (by rw [HN.out]; omega)
          have hk2 : j < ls.length := by rw [HN.out]; exact hlt
          have hsu := get_bang hk2
          obtain ⟨l, hl⟩ : ∃ l, ls[j] = l := ⟨_, rfl⟩
          have hat := (hc j hk2).keep hb (HG2.out.trans HG.out)
          rw [hl] at hat hsu
          have hbr : b < wr.heap.size := Nat.lt_of_lt_of_le hb (HG2.out.trans HG.out).size
          have HAT := Lib.hid hat
          have HBR := Lib.hid hbr
          obtain ⟨c0, c1, c2, c3, c4, c5⟩ := hat
          have HC := Lib.hid (HSA.out j hlt wr (HG2.out.trans HG.out))
          have HIP : Hid (isPair ls s key j = (((l.k == 3) && (l.na.toList == key.toList)) && inSec ls s j)) := by unfold Hid isPair isKey; rw [hsu]
          have HIN : Hid (inSec ls s j = ((nowAt ls (j + 1)).toList == s.toList)) := rfl
          obtain ⟨x, hx⟩ : ∃ x, nowAt ls (j + 1) = x := ⟨_, rfl⟩
          rw [hx] at HC HIN
          have HKN : Hid (isPair ls s key j = false → keepL ls (isPair ls s key) (j + 1) = K ++ [l]) := fun h => by rw [keepL_no h, HK.out, hsu]
          have HKY : Hid (isPair ls s key j = true → keepL ls (isPair ls s key) (j + 1) = K) := fun h => by rw [keepL_yes h, HK.out]
          clear hl hc hx hsu hbr
          by_cases h3 : (l.k == 3) = true
          · have h3n : (l.k != 3) = false := by simpa using h3
            by_cases hk : (l.na.toList == key.toList) = true
            · have hkn : (l.na.toList != key.toList) = false := by simpa using hk
              by_cases hin : (x.toList == s.toList) = true
              · have hinn : (x.toList != s.toList) = false := by simpa using hin
                have HS := Lib.hid (HKY.out (by rw [HIP.out, HIN.out, h3, hk, hin]; rfl))
                go_wp2_with fail
                refine (HC.out).mono ?_
                rintro e w3 ⟨rfl, g3⟩
                have HG3 := Lib.hid g3
                clear g3
                go_wp2_with fail
                go_roundw
                case rel => exact ⟨j + 1, K, by omega, by go_num, HS.out.symm, by omega, HO.out.keep HG3.out, HG.out.trans HG3.out⟩
                case measure => simp [intOf]; omega
              · have hin' : (x.toList == s.toList) = false := by simpa using hin
                have hinn : (x.toList != s.toList) = true := by simpa using hin
                have HS := Lib.hid (HKN.out (by rw [HIP.out, HIN.out, h3, hk, hin']; rfl))
                clear hin
                go_wp2_with fail
                refine (HC.out).mono ?_
                rintro e w3 ⟨rfl, g3⟩
                have hb3 := (g3.cell (p := ⟨w.heap.size, 0, none⟩) hs0).trans hb0
                obtain ⟨d0, d1, d2, d3, d4, d5⟩ := HAT.out.keep HBR.out g3
                have HO3 := Lib.hid (HO.out.keep g3)
                have HG3 : Hid (Grows w2 w3) := HG.out.trans g3
                clear g3
                go_wp2_with (at_builtin; refine appLs rfl _ _ rfl w2.heap.size _ K rfl (HO3.out.keep ((Grows.refl _).alloc _)) ⟨w3.heap.size, 0, none⟩ 1 1 [l] rfl rfl (by omega) (one_newsA _ _ _ rfl) (by omega) (by omega) (Nat.le_trans HG3.out.size (by simp)) ?_)
                intro v' w6 HO6 HGB HNE
                have HG6 : Hid (Grows w2 w6) := (HG3.out.alloc _).mark HGB.out (fun k hk => (HO3.out.lt k hk).1)
                clear HGB HNE
                go_wp2
                go_roundw
                case rel => exact ⟨j + 1, K ++ [l], by omega, by go_num, HS.out.symm, by simp; omega, HO6.out, HG6.out⟩
                case measure => simp [intOf]; omega
            · have hk' : (l.na.toList == key.toList) = false := by simpa using hk
              have hkn : (l.na.toList != key.toList) = true := by simpa using hk
              have HS := Lib.hid (HKN.out (by rw [HIP.out, hk', Bool.and_false]; rfl))
              clear hk
              go_wp2_with (at_builtin; refine appLs rfl _ _ rfl w2.heap.size _ K rfl (HO.out.keep ((Grows.refl _).alloc _)) ⟨wr.heap.size, 0, none⟩ 1 1 [l] rfl rfl (by omega) (one_newsA _ _ _ rfl) (by omega) (by omega) (Nat.le_trans HG.out.size (by simp)) ?_)
              intro v' w6 HO6 HGB HNE
              have HG6 : Hid (Grows w2 w6) := (HG.out.alloc _).mark HGB.out (fun k hk => (HO.out.lt k hk).1)
              clear HGB HNE
              go_wp2
              go_roundw
              case rel => exact ⟨j + 1, K ++ [l], by omega, by go_num, HS.out.symm, by simp; omega, HO6.out, HG6.out⟩
              case measure => simp [intOf]; omega
          · have h3' : (l.k == 3) = false := by simpa using h3
            have h3n : (l.k != 3) = true := by simpa using h3
            have HS := Lib.hid (HKN.out (by rw [HIP.out, h3']; rfl))
            clear h3
            go_wp2_with (at_builtin; refine appLs rfl _ _ rfl w2.heap.size _ K rfl (HO.out.keep ((Grows.refl _).alloc _)) ⟨wr.heap.size, 0, none⟩ 1 1 [l] rfl rfl (by omega) (one_newsA _ _ _ rfl) (by omega) (by omega) (Nat.le_trans HG.out.size (by simp)) ?_)
            intro v' w6 HO6 HGB HNE
            have HG6 : Hid (Grows w2 w6) := (HG.out.alloc _).mark HGB.out (fun k hk => (HO.out.lt k hk).1)
            clear HGB HNE
            go_wp2
            go_roundw
            case rel => exact ⟨j + 1, K ++ [l], by omega, by go_num, HS.out.symm, by simp; omega, HO6.out, HG6.out⟩
            case measure => simp [intOf]; omega
        · obtain rfl : j = n := by omega
          have h1 : wr.cell? ⟨w.heap.size + 1, 0, none⟩ = some (.slice none 0 0) := ((HG02.out.trans HG.out).cell (p := ⟨w.heap.size + 1, 0, none⟩) (by simp)).trans (by simp [fbox])
          have h2 : wr.frozen? ⟨w.heap.size + 1, 0, none⟩ = false := ((HG02.out.trans HG.out).frozen (p := ⟨w.heap.size + 1, 0, none⟩) (by simp)).trans (by simp [fbox])
          obtain ⟨A8, n8, c8, hv8⟩ := HO.out.form3
          subst hv8
          go_wp2
          refine bodyPost_ret (v := .tuple #[.agg #[.slice A8 n8 c8], .bool true]) (by simp [results, Tryd.results8, go_sem, h1]) rfl ?_
          rw [HV.out, HB.out, ← HK.out]
          exact ⟨_, rfl, (HO.out.setOther hs2 _).less HG2.out.size, (HG2.out.trans HG.out).setCell (by simp) _⟩
  · have hv' : vfile ls = false := by simpa using hv
    rw [hv'] at HF
    have hw0 := whereOf_no s key hv'
    have HV : Hid (dropKL ls s key = []) := by unfold Hid dropKL; rw [if_pos (by omega)]
    have HB : Hid (getB ls s key = false) := by unfold Hid; rw [getB_where, hw0]; rfl
    clear hv hv' hw0
    go_enter Tryd.func8, Tryd.ntmps8
    go_wp2_with fail
    refine (HF.out _ (((Grows.refl _).alloc _).alloc _)).mono ?_
    rintro e w1 ⟨rfl, g1⟩
    have HG1 : Hid (Grows w w1) := (((Grows.refl _).alloc _).alloc _).trans g1
    have h1 : w1.cell? ⟨w.heap.size + 1, 0, none⟩ = some (.slice none 0 0) := (g1.cell (p := ⟨w.heap.size + 1, 0, none⟩) (by simp)).trans (by simp)
    have h2 : w1.frozen? ⟨w.heap.size + 1, 0, none⟩ = false := (g1.frozen (p := ⟨w.heap.size + 1, 0, none⟩) (by simp)).trans (by simp)
    clear g1
    go_wp2
    refine bodyPost_ret (v := .tuple #[.agg #[.slice none 0 0], .bool false]) (by simp [results, Tryd.results8, go_sem, h1]) rfl ?_
    rw [HV.out, HB.out]
    exact ⟨_, rfl, OwnL.nil _ _, HG1.out.setCell (by simp) _⟩
end Go.Proofs.YtclopcbpelhiaaaDoor
namespace Go.Proofs.YtclopcbpelhiaaaDoor
open Go.RowKit

set_option maxRecDepth 100000 in
set_option maxHeartbeats 2000000 in
theorem headsOf_any (A : Option Addr) (c : Nat) (ls : List Ln) (s : ByteArray) (w : World) (hf : AllFit ls) (hA : LnsAt w A ls) :
    Calls Tryd.prog 40 #[.agg #[.slice A ls.length c], .string s] w (ValsRet (ints (headsOf' ls s)) w) := by
  have HF := Lib.hid (fun w1 (g : Grows w w1) => linesIn_all A c ls s w1 hf (hA.keep g))
  have HA := Lib.hid hA
  have hn : ls.length ≤ 1048576 := hf.1
  have HE : Hid ((secOf ls s).filter (isHd ls) = headsOf' ls s) := rfl
  have HLT : Hid (∀ i (h : i < (secOf ls s).length), (secOf ls s)[i] < ls.length) := fun i h => secOf_lt (List.getElem_mem h)
  have hL := secOf_le ls s
  clear hA hf
  obtain ⟨L, hLL⟩ : ∃ L, secOf ls s = L := ⟨_, rfl⟩
  rw [hLL] at HF HE HLT hL
  clear hLL
  obtain ⟨n, hnn⟩ : ∃ n, ls.length = n := ⟨_, rfl⟩
  rw [hnn] at hn HF HLT hL
  rw [hnn]
  have HN := Lib.hid hnn
  clear hnn
  obtain ⟨i0, hi, hz0, hz1, hz2⟩ := info_parts infoInt
  have HI : Hid (Tryd.prog.info? 3 = some i0) := hi
  have HZ0 : Hid (i0.zero = some (.int .i64 0)) := hz0
  have HZ1 : Hid (i0.size = 1) := hz1
  have HZ2 : Hid (i0.bytes = 8) := hz2
  clear hi hz0 hz1 hz2
  go_enter Tryd.func40, Tryd.ntmps40
  go_wp2_with fail
  refine (HF.out _ ((Grows.refl _).alloc _)).mono ?_
  rintro e w1 ⟨A1, c1, rfl, hv1, g1, _⟩
  have HG0 : Hid (Grows (w.alloc (fbox A n c)) w1) := g1
  have HV1 := Lib.hid hv1
  have HG1 : Hid (Grows w w1) := ((Grows.refl _).alloc _).trans g1
  clear g1 hv1
  rw [ints_length]
  obtain ⟨p, hp⟩ : ∃ p, L.length = p := ⟨_, rfl⟩
  rw [hp]
  rw [hp] at hL
  have HP := Lib.hid hp
  clear hp
  go_wp2_with fail
  go_loopw [5, 12] (fun v i wr => ∃ (j : Nat) (R : List Nat), j ≤ p ∧ i = .int .i64 j ∧ Hid (R = (L.take j).filter (isHd ls)) ∧ R.length ≤ j ∧ wr.ownsRow w1.heap.size 3 1 v R.length (ints R) ∧ Grows w1 wr) (fun _ i _ => p - (intOf i).toNat)
  case atStart => exact ⟨0, [], Nat.zero_le _, rfl, rfl, Nat.zero_le _, World.ownsRow_nil _ _ _ _, Grows.refl _⟩
  case round =>
    obtain ⟨j, R, hj, rfl, HR, hRj, hown, hg⟩ := hrel
    have HG := Lib.hid hg
    have HOW := Lib.hid hown
    have hb0 : wr.cell? ⟨w.heap.size, 0, none⟩ = some (.slice A n c) := ((HG0.out.trans HG.out).cell (p := ⟨w.heap.size, 0, none⟩) (by simp)).trans (by simp [fbox])
    clear hg hown
    by_cases hlt : j < p
    · have hjL : j < L.length := by rw [HP.out]; exact hlt
      have hx := HLT.out j hjL
      have hTS : L.take (j + 1) = L.take j ++ [L[j]] := List.take_succ_eq_append_getElem hjL
      obtain ⟨b1, o1, rfl, hb1, hc1⟩ := HV1.out (by rw [ints_length]; omega)
      have d0 := hc1 j (by rw [ints_length]; exact hjL)
      have hix : (ints L)[j]'(by rw [ints_length]; exact hjL) = Value.int .i64 (L[j] : Int) := by simp [ints]
      rw [hix] at d0
      obtain ⟨x, hxx⟩ : ∃ x, L[j] = x := ⟨_, rfl⟩
      rw [hxx] at hx hTS d0
      have d1 : wr.cell? ⟨b1, o1 + j, none⟩ = some (.int .i64 x) := (HG.out.cell (p := ⟨b1, o1 + j, none⟩) hb1).trans d0
      obtain ⟨b, o, rfl, hb, hc⟩ := HA.out (by rw [HN.out]; omega)
      have hk2 : x < ls.length := by rw [HN.out]; exact hx
      have HSU := Lib.hid (get_bang hk2)
      obtain ⟨l, hl⟩ : ∃ l, ls[x] = l := ⟨_, rfl⟩
      have hat := (hc x hk2).keep hb (HG1.out.trans HG.out)
      rw [hl] at hat HSU
      obtain ⟨c0, c1', c2, c3, c4, c5⟩ := hat
      have HK : Hid (isHd ls x = (l.k == 2)) := by
        unfold Hid isHd
        rw [HSU.out]
      have HTS := Lib.hid hTS
      clear hl hc hc1 hix d0 hxx hTS
      by_cases hk : isHd ls x = true
      · have HS2 : Hid ((L.take (j + 1)).filter (isHd ls) = R ++ [x]) := by
          unfold Hid; rw [HTS.out, List.filter_append, ← HR.out]; simp [hk]
        have e1 := hk
        rw [HK.out] at e1
        clear hk
        go_wp2_with (at_builtin; refine wpList_append_own _ rfl _ _ 54 rfl w1.heap.size 3 i0 (.int .i64 0) 1 8 Tryd.underlying54 HI.out HZ0.out HZ1.out HZ2.out rfl (by decide) _ _ _ rfl (HOW.out.alloc _) ⟨wr.heap.size, 0, none⟩ 1 1 [.int .i64 x] rfl rfl ?c1 ?c2 ?c3 ?c4 ?c5 ?_)
        case c1 =>
          intro j u hj
          match j, hj with
          | 0, hj => simp at hj; subst hj; simp [Addr.add]
        case c2 => intro u hu; simp at hu; subst hu; rfl
        case c3 => unfold maxLen; omega
        case c4 => omega
        case c5 => have := HG.out.size; simp; omega
        · intro v' w2 hown' hgrow _
          have HR2 : Hid (Grows w1 w2) := (HG.out.alloc _).grown (HOW.out.alloc _) hgrow
          have HO2 : Hid (w2.ownsRow w1.heap.size 3 1 v' (R ++ [x]).length (ints (R ++ [x]))) := by unfold Hid; rw [ints_snoc, List.length_append]; exact hown'
          clear hown' hgrow
          go_wp2
          go_roundw
          case rel => exact ⟨j + 1, R ++ [x], by omega, by go_num, HS2.out.symm, by simp; omega, HO2.out, HR2.out⟩
          case measure => simp [intOf]; omega
      · have hk' : isHd ls x = false := by simpa using hk
        have HS2 : Hid ((L.take (j + 1)).filter (isHd ls) = R) := by
          unfold Hid; rw [HTS.out, List.filter_append, ← HR.out]; simp [hk']
        have e1 := hk'
        rw [HK.out] at e1
        clear hk hk'
        go_wp2
        go_roundw
        case rel => exact ⟨j + 1, R, by omega, by go_num, HS2.out.symm, by omega, HOW.out, HG.out⟩
        case measure => simp [intOf]; omega
    · obtain rfl : j = p := by omega
      have HRR : Hid (R = headsOf' ls s) := by
        unfold Hid
        rw [← HE.out, HR.out, ← HP.out, List.take_length]
      go_wp2
      go_ret
      obtain ⟨A', c', hv', hat', hcp'⟩ := ValsAt.of_own (base := w1.heap.size) (e := 3) (v := u5) (xs := ints R) (by rw [ints_length]; exact HOW.out)
      rw [← HRR.out]
      exact ⟨A', c', by rw [← hv']; rfl, hat', HG1.out.trans HG.out, hcp'⟩


set_option maxRecDepth 100000 in
set_option maxHeartbeats 4000000 in
theorem placeFor_any (A : Option Addr) (c : Nat) (ls : List Ln) (s : ByteArray) (w : World) (hn : ls.length ≤ 1048576) (hA : LnsAt w A ls) :
    Calls Tryd.prog 42 #[.agg #[.slice A ls.length c], .string s] w fun e w' => e = .returned (.int .i64 (placeTo ls s ls.length)) ∧ Grows w w' := by
  have HSA := Lib.hid (fun (i : Nat) (h : i < ls.length) w1 (g : Grows w w1) => sectionAt_any A c ls i w1 hn h (hA.keep g))
  have HA := Lib.hid hA
  clear hA
  obtain ⟨n, hnn⟩ : ∃ n, ls.length = n := ⟨_, rfl⟩
  rw [hnn] at hn HSA ⊢
  have HN := Lib.hid hnn
  clear hnn
  have HP0 : Hid (placeTo ls s 0 = if s.toList.isEmpty = true then -1 else -2) := rfl
  by_cases he : s.toList.isEmpty = true
  all_goals
    first
      | (have he1 : s.toList = [] := by simpa using he
         have HP1 : Hid (placeTo ls s 0 = -1) := by unfold Hid; rw [HP0.out, if_pos he])
      | (have he1 : s.toList.isEmpty = false := by simpa using he
         have he2 : ¬ s.toList = [] := by intro h; rw [h] at he; simp at he
         have HP1 : Hid (placeTo ls s 0 = -2) := by unfold Hid; rw [HP0.out, if_neg he]
         clear he)
    go_enter Tryd.func42, Tryd.ntmps42
    go_wp2
    clear he1
    first | clear he2 | clear he
    go_loopw [5, 6] (fun v i wr => ∃ (j : Nat) (q : Int), j ≤ n ∧ i = .int .i64 j ∧ v = .int .i64 q ∧ Hid (q = placeTo ls s j) ∧ Hid (Grows (w.alloc (fbox A n c)) wr)) (fun _ i _ => n - (intOf i).toNat)
    case atStart => exact ⟨0, _, Nat.zero_le _, rfl, rfl, HP1.out.symm, Grows.refl _⟩
    case round =>
      obtain ⟨j, q, hj, rfl, rfl, HQ, HG⟩ := hrel
      have hb0 : wr.cell? ⟨w.heap.size, 0, none⟩ = some (.slice A n c) := (HG.out.cell (p := ⟨w.heap.size, 0, none⟩) (by simp)).trans (by simp [fbox])
      have HGW : Hid (Grows w wr) := ((Grows.refl _).alloc _).trans HG.out
      have hs0 : w.heap.size < wr.heap.size := Nat.lt_of_lt_of_le (by simp) HG.out.size
      by_cases hlt : j < n
      · obtain ⟨b, o, rfl, hb, hc⟩ := HA.out (by rw [HN.out]; omega)
        have hk2 : j < ls.length := by rw [HN.out]; exact hlt
        have hsu := get_bang hk2
        obtain ⟨l, hl⟩ : ∃ l, ls[j] = l := ⟨_, rfl⟩
        have hat := (hc j hk2).keep hb HGW.out
        rw [hl] at hat hsu
        have hbr : b < wr.heap.size := Nat.lt_of_lt_of_le hb HGW.out.size
        have HAT := Lib.hid hat
        have HBR := Lib.hid hbr
        have HC := Lib.hid (HSA.out j hlt wr HGW.out)
        have HIN : Hid (inSec ls s j = ((nowAt ls (j + 1)).toList == s.toList)) := rfl
        have HSL : Hid (secLine ls j = ((l.k == 2) || (l.k == 3))) := by unfold Hid secLine; rw [hsu]
        obtain ⟨x, hx⟩ : ∃ x, nowAt ls (j + 1) = x := ⟨_, rfl⟩
        rw [hx] at HC HIN
        have HY : Hid ((inSec ls s j && secLine ls j) = true → placeTo ls s (j + 1) = j) := fun h => placeTo_yes h
        have HO : Hid ((inSec ls s j && secLine ls j) = false → placeTo ls s (j + 1) = q) := fun h => by rw [placeTo_no h, HQ.out]
        clear hl hc hx hsu hbr hat
        by_cases hin : (x.toList == s.toList) = true
        · by_cases h2 : (l.k == 2) = true
          · have HS := Lib.hid (HY.out (by rw [HIN.out, HSL.out, hin, h2]; rfl))
            go_wp2_with fail
            refine (HC.out).mono ?_
            rintro e w3 ⟨rfl, g3⟩
            have hb3 := (g3.cell (p := ⟨w.heap.size, 0, none⟩) hs0).trans hb0
            obtain ⟨d0, d1, d2, d3, d4, d5⟩ := HAT.out.keep HBR.out g3
            have HG3 := Lib.hid (HG.out.trans g3)
            clear g3
            go_wp2
            go_roundw
            case rel => exact ⟨j + 1, _, by omega, by go_num, rfl, HS.out.symm, HG3.out⟩
            case measure => simp [intOf]; omega
          · have h2' : (l.k == 2) = false := by simpa using h2
            by_cases h3 : (l.k == 3) = true
            · have HS := Lib.hid (HY.out (by rw [HIN.out, HSL.out, hin, h2', h3]; rfl))
              clear h2
              go_wp2_with fail
              refine (HC.out).mono ?_
              rintro e w3 ⟨rfl, g3⟩
              have hb3 := (g3.cell (p := ⟨w.heap.size, 0, none⟩) hs0).trans hb0
              obtain ⟨d0, d1, d2, d3, d4, d5⟩ := HAT.out.keep HBR.out g3
              have HG3 := Lib.hid (HG.out.trans g3)
              clear g3
              go_wp2
              go_roundw
              case rel => exact ⟨j + 1, _, by omega, by go_num, rfl, HS.out.symm, HG3.out⟩
              case measure => simp [intOf]; omega
            · have h3' : (l.k == 3) = false := by simpa using h3
              have HS := Lib.hid (HO.out (by rw [HIN.out, HSL.out, hin, h2', h3']; rfl))
              clear h2 h3
              go_wp2_with fail
              refine (HC.out).mono ?_
              rintro e w3 ⟨rfl, g3⟩
              have hb3 := (g3.cell (p := ⟨w.heap.size, 0, none⟩) hs0).trans hb0
              obtain ⟨d0, d1, d2, d3, d4, d5⟩ := HAT.out.keep HBR.out g3
              have HG3 := Lib.hid (HG.out.trans g3)
              clear g3
              go_wp2
              go_roundw
              case rel => exact ⟨j + 1, _, by omega, by go_num, rfl, HS.out.symm, HG3.out⟩
              case measure => simp [intOf]; omega
        · have hin' : (x.toList == s.toList) = false := by simpa using hin
          have HS := Lib.hid (HO.out (by rw [HIN.out, hin']; rfl))
          clear hin
          go_wp2_with fail
          refine (HC.out).mono ?_
          rintro e w3 ⟨rfl, g3⟩
          have HG3 := Lib.hid (HG.out.trans g3)
          clear g3
          go_wp2
          go_roundw
          case rel => exact ⟨j + 1, _, by omega, by go_num, rfl, HS.out.symm, HG3.out⟩
          case measure => simp [intOf]; omega
      · obtain rfl : j = n := by omega
        go_wp2
        go_ret
        exact ⟨ret_int HQ.out, ((Grows.refl _).alloc _).trans HG.out⟩

/-- the first head of a name, from place i on -/
def headFrom (s : ByteArray) : List Ln → Nat → Int
  | [], _ => -1
  | l :: ls, i => if (l.k == 2 && l.na.toList == s.toList) = true then (i : Int) else headFrom s ls (i + 1)
def headIx (ls : List Ln) (s : ByteArray) : Int := headFrom s ls 0
def NoneH (ls : List Ln) (s : ByteArray) (j : Nat) : Prop := ∀ i (h : i < ls.length), i < j → (ls[i].k == 2 && ls[i].na.toList == s.toList) = false
theorem NoneH.zero (ls : List Ln) (s : ByteArray) : NoneH ls s 0 := fun _ _ h => absurd h (Nat.not_lt_zero _)
theorem NoneH.succ {ls : List Ln} {s : ByteArray} {j : Nat} (h : NoneH ls s j) (hj : j < ls.length) (hl : (ls[j].k == 2 && ls[j].na.toList == s.toList) = false) : NoneH ls s (j + 1) := by
  intro i hi hij
  by_cases e : i = j
  · subst e; exact hl
  · exact h i hi (by omega)
theorem headFrom_at (s : ByteArray) : ∀ (ls : List Ln) (i j : Nat), NoneH ls s j → ∀ (hj : j < ls.length), (ls[j].k == 2 && ls[j].na.toList == s.toList) = true → headFrom s ls i = ((i + j : Nat) : Int) := by
  intro ls
  induction ls with
  | nil => intro i j _ hj; exact absurd hj (by simp)
  | cons l ls ih =>
    intro i j hn hj ht
    cases j with
    | zero => simp only [List.getElem_cons_zero] at ht; rw [headFrom, if_pos ht]; simp
    | succ j =>
      have h0 : (l.k == 2 && l.na.toList == s.toList) = false := hn 0 (by simp) (by omega)
      rw [headFrom, if_neg (by rw [h0]; simp), ih (i + 1) j (fun q hq hqj => hn (q + 1) (by simpa using hq) (by omega)) (by simpa using hj) (by simpa using ht)]
      omega
theorem headFrom_none (s : ByteArray) : ∀ (ls : List Ln) (i : Nat), NoneH ls s ls.length → headFrom s ls i = -1 := by
  intro ls
  induction ls with
  | nil => intro i _; rfl
  | cons l ls ih =>
    intro i hn
    have h0 : (l.k == 2 && l.na.toList == s.toList) = false := hn 0 (by simp) (by simp)
    rw [headFrom, if_neg (by rw [h0]; simp), ih (i + 1) (fun q hq hqj => hn (q + 1) (by simpa using hq) (by simpa using hqj))]
theorem headFrom_neg (s : ByteArray) : ∀ (ls : List Ln) (i : Nat), headFrom s ls i < 0 ↔ ∀ q (h : q < ls.length), (ls[q].k == 2 && ls[q].na.toList == s.toList) = false := by
  intro ls
  induction ls with
  | nil => intro i; exact ⟨fun _ q h => absurd h (by simp), fun _ => by simp [headFrom]⟩
  | cons l ls ih =>
    intro i
    rw [headFrom]
    by_cases h : (l.k == 2 && l.na.toList == s.toList) = true
    · rw [if_pos h]
      constructor
      · intro h2; omega
      · intro h2
        have := h2 0 (by simp)
        simp only [List.getElem_cons_zero] at this
        rw [h] at this
        cases this
    · rw [if_neg h, ih (i + 1)]
      constructor
      · intro h2 q hq
        cases q with
        | zero => simpa using h
        | succ q => simpa using h2 q (by simpa using hq)
      · intro h2 q hq
        exact h2 (q + 1) (by simpa using hq)
theorem headIx_heads {ls : List Ln} {s : ByteArray} (hv : vfile ls = true) : headIx ls s < 0 ↔ headsOf' ls s = [] := by
  rw [headsOf_eq s hv, List.filter_eq_nil_iff]
  unfold headIx
  rw [headFrom_neg]
  constructor
  · intro h i hi
    have hil := List.mem_range.1 hi
    have h1 := h i hil
    unfold headP isHd
    rw [get_bang hil, h1]
    simp
  · intro h q hq
    have h1 := h q (List.mem_range.2 hq)
    unfold headP isHd at h1
    rw [get_bang hq] at h1
    simpa using h1

end Go.Proofs.YtclopcbpelhiaaaDoor
namespace Go.Proofs.YtclopcbpelhiaaaDoor
open Go.RowKit

/-- the line with another name -/
def Ln.named (l : Ln) (to : ByteArray) : Ln := ⟨l.k, l.le, to, l.se, l.va, l.ta⟩
/-- the lines, those of S with another name -/
def renS (ls : List Ln) (S : Nat → Bool) (to : ByteArray) : List Ln := (List.range ls.length).map fun i => if S i = true then (ls[i]!).named to else ls[i]!
theorem renS_length (ls : List Ln) (S : Nat → Bool) (to : ByteArray) : (renS ls S to).length = ls.length := by simp [renS]
theorem renS_get (ls : List Ln) (S : Nat → Bool) (to : ByteArray) (i : Nat) (h : i < ls.length) : (renS ls S to)[i]'(by rw [renS_length]; exact h) = if S i = true then ls[i].named to else ls[i] := by
  simp only [renS, List.getElem_map, List.getElem_range, get_bang h]
theorem renS_congr {ls : List Ln} {S T : Nat → Bool} (to : ByteArray) (h : ∀ i, i < ls.length → S i = T i) : renS ls S to = renS ls T to := by
  unfold renS
  apply List.map_congr_left
  intro i hi
  rw [h i (List.mem_range.1 hi)]
theorem renS_none {ls : List Ln} {S : Nat → Bool} (to : ByteArray) (h : ∀ i, i < ls.length → S i = false) : renS ls S to = ls := by
  apply List.ext_getElem (renS_length _ _ _)
  intro i h1 h2
  rw [renS_get ls S to i h2, if_neg (by rw [h i h2]; simp)]
/-- one more line has the name -/
theorem renS_set {ls : List Ln} {S T : Nat → Bool} {to : ByteArray} {k : Nat} (hk : k < ls.length) (h : ∀ i, T i = (S i || decide (i = k))) : renS ls T to = (renS ls S to).set k (ls[k].named to) := by
  apply List.ext_getElem (by rw [List.length_set, renS_length, renS_length])
  intro i h1 h2
  have hi : i < ls.length := by rw [renS_length] at h1; exact h1
  rw [renS_get ls T to i hi, List.getElem_set, h i]
  by_cases e : i = k
  · subst e; simp
  · have hse : (S i || decide (i = k)) = S i := by simp [e]
    have hki : ¬ k = i := fun h9 => e h9.symm
    rw [hse, renS_get ls S to i hi]
    simp only [hki, if_false]
theorem lcells_set (K : List Ln) : ∀ (k : Nat) (h : k < K.length) (to : ByteArray), (lcells K).set (k * 6 + 2) (.string to) = lcells (K.set k (K[k].named to)) := by
  induction K with
  | nil => intro k h; exact absurd h (by simp)
  | cons l K ih =>
    intro k h to
    cases k with
    | zero => simp [lcells, lcell, Ln.named]
    | succ k =>
      have hl : (lcell l).length = 6 := rfl
      rw [lcells, List.set_append_right _ _ (by rw [hl]; omega), hl, show (k + 1) * 6 + 2 - 6 = k * 6 + 2 from by omega, ih k (by simpa using h) to]
      simp [lcells]
theorem named_twice (l : Ln) (a b : ByteArray) : (l.named a).named b = l.named b := rfl

set_option maxRecDepth 100000 in
set_option maxHeartbeats 1000000 in
theorem copyLines_any (A : Option Addr) (c : Nat) (ls : List Ln) (w : World) (hn : ls.length ≤ 1048576) (hA : LnsAt w A ls) :
    Calls Tryd.prog 78 #[.slice A ls.length c] w fun e w' => e = .returned (.slice (some ⟨w.heap.size, 0, none⟩) ls.length ls.length) ∧ RowL w' w.heap.size ls ∧ Grows w w' := by
  have HA := Lib.hid (fun w1 (g : Grows w w1) => hA.keep g)
  obtain ⟨n, hnn⟩ : ∃ n, ls.length = n := ⟨_, rfl⟩
  obtain ⟨i0, hi, hz0, hz1, hz2⟩ := info_parts infoLine
  have hmk := fun W => run_make_rowN (P := Tryd.prog) 23 60 i0 _ Tryd.underlying23 hi hz0 .i64 .i64 n n (Nat.le_refl _) (by rw [hz2]; omega) (by omega) W
  rw [hz1] at hmk
  have HR := Lib.hid (RowL.zeros w n)
  obtain ⟨M, hM⟩ : ∃ M, madeCells Ln.zero.agg.cells (n * 6) = M := ⟨_, rfl⟩
  rw [hM] at hmk HR
  rw [hnn] at hn ⊢
  have HN := Lib.hid hnn
  clear hA hM hnn hi hz0 hz1 hz2
  go_enter Tryd.func78, Tryd.ntmps78
  go_wp2_with (with_reducible refine copyL rfl _ _ rfl w.heap.size 0 (List.replicate n Ln.zero) ls HR.out _ _ _ _ _ _ rfl rfl (by rw [HN.out]; simp) (fun _ => rfl) (HA.out _ ((Grows.refl _).alloc _)) (by rw [HN.out]; simp) ?_)
  intro w2 HR2 HG2
  go_wp2
  go_ret
  have e : lay (List.replicate n Ln.zero) 0 ls = ls := by
    unfold lay
    rw [List.take_zero, List.nil_append, Nat.zero_add, List.drop_eq_nil_of_le (by rw [HN.out]; simp), List.append_nil]
  rw [e] at HR2
  exact ⟨rfl, HR2.out, ((Grows.refl w).alloc _).mark HG2.out (fun k hk => by injection hk with hk; omega)⟩

/-- the lines if they are valid -/
def chkL (K : List Ln) : List Ln := if vfile K = true then K else []
theorem chkL_le (K : List Ln) : (chkL K).length ≤ K.length := by
  unfold chkL
  split <;> simp
/-- a call's end: it returns the file of these lines if it is valid, and whether it is -/
def ChkRet (K : List Ln) (base : Nat) (w : World) (e : Ending) (w' : World) : Prop := ∃ u, e = .returned (.tuple #[.agg #[u], .bool (vfile K)]) ∧ OwnL w' base u (chkL K) ∧ Grows w w'

set_option maxRecDepth 100000 in
set_option maxHeartbeats 1000000 in
theorem validLines_any (v : Value) (base : Nat) (K : List Ln) (w : World) (hf : AllFit K) (h : OwnL w base v K) :
    Calls Tryd.prog 51 #[v] w (ChkRet K base w) := by
  obtain ⟨A, c, hv, hA⟩ := h.form
  subst hv
  have HF := Lib.hid (fun w1 (g : Grows w w1) => implFile_any A c K w1 hf (hA.keep g))
  have HO := Lib.hid h
  clear hA h hf
  by_cases hv : vfile K = true
  · rw [hv] at HF
    have HK : Hid (chkL K = K ∧ vfile K = true) := ⟨by unfold chkL; rw [if_pos hv], hv⟩
    clear hv
    obtain ⟨n, hnn⟩ : ∃ n, K.length = n := ⟨_, rfl⟩
    rw [hnn] at HF HO ⊢
    clear hnn
    go_enter Tryd.func51, Tryd.ntmps51
    go_wp2_with fail
    refine (HF.out _ (((Grows.refl _).alloc _).alloc _)).mono ?_
    rintro e w1 ⟨rfl, g1⟩
    have G1 : Grows ((w.alloc (fbox none 0 0)).alloc (fbox A n c)) w1 := g1
    have h1 : w1.cell? ⟨w.heap.size, 0, none⟩ = some (.slice none 0 0) := (G1.cell (p := ⟨w.heap.size, 0, none⟩) (by simp; omega)).trans (by simp [fbox])
    have h2 : w1.frozen? ⟨w.heap.size, 0, none⟩ = false := (G1.frozen (p := ⟨w.heap.size, 0, none⟩) (by simp; omega)).trans (by simp [fbox])
    have h3 : w1.cell? ⟨w.heap.size + 1, 0, none⟩ = some (.slice A n c) := (G1.cell (p := ⟨w.heap.size + 1, 0, none⟩) (by simp)).trans (by simp [fbox])
    have HG1 : Hid (Grows w w1) := (((Grows.refl _).alloc _).alloc _).trans g1
    have HO1 := Lib.hid (HO.out.keep HG1.out)
    have HLT := Lib.hid HO.out.lt
    clear g1 G1
    go_wp2
    refine bodyPost_ret (v := .tuple #[.agg #[.slice A n c], .bool true]) (by simp [results, Tryd.results51, go_sem, h1]) rfl ?_
    unfold ChkRet
    rw [HK.out.1, HK.out.2]
    exact ⟨_, rfl, HO1.out.setFar (fun e => by have := (HLT.out _ e).2; omega) _, HG1.out.setCell (by simp) _⟩
  · have hv' : vfile K = false := by simpa using hv
    rw [hv'] at HF
    have HK : Hid (chkL K = [] ∧ vfile K = false) := ⟨by unfold chkL; rw [if_neg hv], hv'⟩
    clear hv hv'
    go_enter Tryd.func51, Tryd.ntmps51
    go_wp2_with fail
    refine (HF.out _ (((Grows.refl _).alloc _).alloc _)).mono ?_
    rintro e w1 ⟨rfl, g1⟩
    have G1 : Grows ((w.alloc (fbox none 0 0)).alloc (fbox A K.length c)) w1 := g1
    have h1 : w1.cell? ⟨w.heap.size, 0, none⟩ = some (.slice none 0 0) := (G1.cell (p := ⟨w.heap.size, 0, none⟩) (by simp; omega)).trans (by simp [fbox])
    have h2 : w1.frozen? ⟨w.heap.size, 0, none⟩ = false := (G1.frozen (p := ⟨w.heap.size, 0, none⟩) (by simp; omega)).trans (by simp [fbox])
    have HG1 : Hid (Grows w w1) := (((Grows.refl _).alloc _).alloc _).trans g1
    clear g1 G1
    go_wp2
    refine bodyPost_ret (v := .tuple #[.agg #[.slice none 0 0], .bool false]) (by simp [results, Tryd.results51, go_sem, h1]) rfl ?_
    unfold ChkRet
    rw [HK.out.1, HK.out.2]
    exact ⟨_, rfl, OwnL.nil _ _, HG1.out.setCell (by simp) _⟩

theorem RowL.cellAt {w : World} {g : Nat} {K : List Ln} (h : RowL w g K) (j : Nat) : w.cell? ⟨g, j, none⟩ = (lcells K)[j]? := by
  rw [cell_of_row w g j _ _ _ h]; simp
theorem RowL.free {w : World} {g : Nat} {K : List Ln} (h : RowL w g K) (j : Nat) : w.frozen? ⟨g, j, none⟩ = false := frozen_of_row w g j _ _ h
theorem RowL.name {w : World} {g : Nat} {K : List Ln} (h : RowL w g K) {k : Nat} (hk : k < K.length) (to : ByteArray) : RowL (w.setCell ⟨g, k * 6 + 2, none⟩ (.string to)) g (K.set k (K[k].named to)) := by
  unfold RowL at h ⊢
  rw [← lcells_set K k hk to]
  simp [World.setCell, Array.getElem?_modify, h]
theorem OwnL.name {w : World} {base g n c : Nat} {K : List Ln} (h : OwnL w base (.slice (some ⟨g, 0, none⟩) n c) K) (hn : K.length = n) {k : Nat} (hk : k < K.length) (to : ByteArray) : OwnL (w.setCell ⟨g, k * 6 + 2, none⟩ (.string to)) base (.slice (some ⟨g, 0, none⟩) n c) (K.set k (K[k].named to)) := by
  unfold OwnL
  rw [← lcells_set K k hk to, List.length_set]
  subst hn
  exact OwnR.set_ h _ _

end Go.Proofs.YtclopcbpelhiaaaDoor
