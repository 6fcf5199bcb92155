/-
  Which lines are of a section, plainly, and what the program's linesIn returns. Conditions: at most 1048576 bytes in all.
  The pairs of a key, the line of a key and its value: pairsOf, WhereIs and GetValue of the program, lastPair, WhereIs and GetValue of the specification. Conditions: at most 1048576 bytes in all.
  The pairs of a key and the line of a key: pairsOf and WhereIs of the program; GetValue of both. Conditions: at most 1048576 bytes in all.
  The value of a key: GetValue of the program and of the specification. Conditions: at most 1048576 bytes in all.
-/
import Derived.Test.YtclopcbpelhiaaaDoorFile
import Derived.Laws.OwnMore
import Derived.Deep.AppendLies
import Derived.Maps.AppendAt
namespace Go.Proofs.YtclopcbpelhiaaaDoor
open Go.RowKit

instance : Inhabited Ln := ⟨⟨0, ⟨#[]⟩, ⟨#[]⟩, ⟨#[]⟩, ⟨#[]⟩, ⟨#[]⟩⟩⟩
/-- the section behind k lines -/
def nowAt (ls : List Ln) (k : Nat) : ByteArray := (ls.take k).foldl (fun now l => if l.k = 2 then l.na else now) ⟨#[]⟩
theorem nowAt_succ {ls : List Ln} {k : Nat} (hk : k < ls.length) : nowAt ls (k + 1) = if ls[k].k = 2 then ls[k].na else nowAt ls k := by
  unfold nowAt
  rw [List.take_succ_eq_append_getElem hk, List.foldl_append]
  rfl
/-- line i is of the section s -/
def inSec (ls : List Ln) (s : ByteArray) (i : Nat) : Bool := (nowAt ls (i + 1)).toList == s.toList
/-- of the first k lines those of the section s -/
def secTo (ls : List Ln) (s : ByteArray) (k : Nat) : List Nat := (List.range k).filter (inSec ls s)
theorem secTo_yes {ls : List Ln} {s : ByteArray} {k : Nat} (h : inSec ls s k = true) : secTo ls s (k + 1) = secTo ls s k ++ [k] := by
  unfold secTo
  rw [List.range_succ, List.filter_append]
  simp [h]
theorem secTo_no {ls : List Ln} {s : ByteArray} {k : Nat} (h : inSec ls s k = false) : secTo ls s (k + 1) = secTo ls s k := by
  unfold secTo
  rw [List.range_succ, List.filter_append]
  simp [h]
theorem secTo_le (ls : List Ln) (s : ByteArray) (k : Nat) : (secTo ls s k).length ≤ k := by
  unfold secTo
  have := List.length_filter_le (inSec ls s) (List.range k)
  simpa using this
theorem secTo_lt {ls : List Ln} {s : ByteArray} {k i : Nat} (h : i ∈ secTo ls s k) : i < k := by
  unfold secTo at h
  have := (List.mem_filter.1 h).1
  simpa using this

/-- numbers as cells -/
def ints (l : List Nat) : List Value := l.map fun (i : Nat) => Value.int .i64 (i : Int)
/-- a slice whose cells are these values -/
def ValsAt (w : World) (A : Option Addr) (xs : List Value) : Prop :=
  0 < xs.length → ∃ b o, A = some ⟨b, o, none⟩ ∧ b < w.heap.size ∧ ∀ i (h : i < xs.length), w.cell? ⟨b, o + i, none⟩ = some xs[i]
theorem ValsAt.keep {w w' : World} {A : Option Addr} {xs : List Value} (h : ValsAt w A xs) (g : Grows w w') : ValsAt w' A xs := fun h0 => by
  obtain ⟨b, o, e, hb, hc⟩ := h h0
  exact ⟨b, o, e, Nat.lt_of_lt_of_le hb g.size, fun i hi => (g.cell (p := ⟨b, o + i, none⟩) hb).trans (hc i hi)⟩
theorem ValsAt.of_own {w : World} {base : Nat} {e : TypeId} {v : Value} {xs : List Value} (h : w.ownsRow base e 1 v xs.length xs) : ∃ A c, v = .slice A xs.length c ∧ ValsAt w A xs ∧ xs.length ≤ c := by
  rcases Nat.eq_zero_or_pos xs.length with h0 | h0
  · rcases h.2 with ⟨rfl, _⟩ | ⟨g, cap, cur, rfl, _⟩
    · exact ⟨none, 0, by rw [h0], fun hh => absurd hh (by omega), by omega⟩
    · exact ⟨_, _, rfl, fun hh => absurd hh (by omega), by omega⟩
  · obtain ⟨g, cap, hv, _, hlt⟩ := h.form h0
    have hcap : xs.length ≤ cap := by
      rcases h.2 with ⟨h1, _⟩ | ⟨g', cap', cur, h1, _, _, h2, _⟩
      · rw [hv] at h1; cases h1
      · rw [hv] at h1; injection h1 with _ _ h3; omega
    refine ⟨some ⟨g, 0, none⟩, cap, hv, fun _ => ⟨g, 0, rfl, hlt, fun i hi => ?_⟩, hcap⟩
    have := h.cells (g := g) (by rw [hv]; rfl) i xs[i] (List.getElem?_eq_getElem hi)
    have ea : (⟨g, 0, none⟩ : Addr).add i = ⟨g, 0 + i, none⟩ := by unfold Addr.add; split <;> simp_all
    rw [ea] at this
    exact this

theorem own_base {w : World} {base : Nat} {e : TypeId} {size n : Nat} {v : Value} {xs : List Value} (h : w.ownsRow base e size v n xs) : ∀ g, v.ownBlock = some g → base ≤ g := by
  intro g hg
  rcases h.2 with ⟨rfl, _⟩ | ⟨g', cap, cur, rfl, hb, _⟩
  · simp [Value.ownBlock] at hg
  · have : g' = g := by simpa [Value.ownBlock] using hg
    omega
theorem Grows.grown {a b c : World} {e : TypeId} {size n : Nat} {v : Value} {xs : List Value} (h : Grows a b) (ho : b.ownsRow a.heap.size e size v n xs) (hg : b.grownBy c v.ownBlock) : Grows a c :=
  Below.grown h hg h.size (own_base ho)
theorem ints_snoc (L : List Nat) (k : Nat) : ints (L ++ [k]) = ints L ++ [Value.int .i64 (k : Int)] := by simp [ints]
theorem ints_length (L : List Nat) : (ints L).length = L.length := by simp [ints]

theorem infoInt : (Tryd.prog.info? 3).map (fun i => (i.zero, i.size, i.bytes)) = some (some (.int .i64 0), 1, 8) := by kernel_rfl

/-- a call's end: it returns a slice of these values, in memory that is new -/
def ValsRet (xs : List Value) (w : World) (e : Ending) (w' : World) : Prop := ∃ A c, e = .returned (.slice A xs.length c) ∧ ValsAt w' A xs ∧ Grows w w' ∧ xs.length ≤ c

set_option maxRecDepth 100000 in
set_option maxHeartbeats 2000000 in
theorem linesIn_any (A : Option Addr) (c : Nat) (ls : List Ln) (s : ByteArray) (w : World) (hf : AllFit ls) (hv : vfile ls = true) (hA : LnsAt w A ls) :
    Calls Tryd.prog 41 #[.agg #[.slice A ls.length c], .string s] w (ValsRet (ints (secTo ls s ls.length)) w) := by
  have HF := Lib.hid (fun w1 (g : Grows w w1) => implFile_any A c ls w1 hf (hA.keep g))
  rw [hv] at HF
  have HA := Lib.hid hA
  have hn : ls.length ≤ 1048576 := hf.1
  clear hA hf hv
  obtain ⟨n, hnn⟩ : ∃ n, ls.length = n := ⟨_, rfl⟩
  rw [hnn] at hn HF
  rw [hnn]
  have HN := Lib.hid hnn
  clear hnn
  obtain ⟨i0, hi, hz0, hz1, hz2⟩ := info_parts infoInt
  have HI : Hid (Tryd.prog.info? 3 = some i0) := hi
  have HZ0 : Hid (i0.zero = some (.int .i64 0)) := hz0
  have HZ1 : Hid (i0.size = 1) := hz1
  have HZ2 : Hid (i0.bytes = 8) := hz2
  clear hi hz0 hz1 hz2
  go_enter Tryd.func41, Tryd.ntmps41
  go_wp2_with fail
  refine (HF.out _ ((Grows.refl _).alloc _)).mono ?_
  rintro e w1 ⟨rfl, g1⟩
  have hx1 : w1.cell? ⟨w.heap.size, 0, none⟩ = some (.slice A n c) := (g1.cell (p := ⟨w.heap.size, 0, none⟩) (by simp)).trans (by simp)
  have HG1 : Hid (Grows w w1) := ((Grows.refl _).alloc _).trans g1
  clear g1
  go_wp2_with fail
  go_loopw [5, 6, 15] (fun v nw i wr => ∃ (k : Nat) (t : ByteArray) (L : List Nat), k ≤ n ∧ i = .int .i64 k ∧ nw = .string t ∧ Hid (t = nowAt ls k) ∧ Hid (L = secTo ls s k) ∧ L.length ≤ k ∧ wr.ownsRow w1.heap.size 3 1 v L.length (ints L) ∧ Grows w1 wr) (fun _ _ i _ => n - (intOf i).toNat)
  case atStart => exact ⟨0, ⟨#[]⟩, [], Nat.zero_le _, rfl, rfl, rfl, rfl, Nat.zero_le _, World.ownsRow_nil _ _ _ _, Grows.refl _⟩
  case round =>
    obtain ⟨k, t, L, hk, rfl, rfl, HT, HL, hLk, hown, hg⟩ := hrel
    have HG := Lib.hid hg
    have HOW := Lib.hid hown
    clear hg hx1 hown
    by_cases hlt : k < n
    · obtain ⟨b, o, rfl, hb, hc⟩ := HA.out (by rw [HN.out]; omega)
      have hk2 : k < ls.length := by rw [HN.out]; exact hlt
      have HSU := Lib.hid (nowAt_succ hk2)
      obtain ⟨l, hl⟩ : ∃ l, ls[k] = l := ⟨_, rfl⟩
      have hat := (hc k hk2).keep hb (HG1.out.trans HG.out)
      rw [hl] at hat HSU
      obtain ⟨c0, c1, c2, c3, c4, c5⟩ := hat
      clear hl hc
      by_cases h2 : l.k = 2
      · have hB : (l.k == 2) = true := by rw [beq_iff_eq]; exact h2
        have HNW : Hid (nowAt ls (k + 1) = l.na) := by unfold Hid; rw [HSU.out, if_pos h2]
        clear h2
        by_cases h3 : inSec ls s k = true
        · have hE : (l.na.toList == s.toList) = true := by rw [← HNW.out]; exact h3
          have HS2 := Lib.hid (secTo_yes h3)
          clear h3
          go_wp2_with (at_builtin; refine wpList_append_own _ rfl _ _ 54 rfl w1.heap.size 3 i0 (.int .i64 0) 1 8 Tryd.underlying54 HI.out HZ0.out HZ1.out HZ2.out rfl (by decide) _ _ _ rfl ((HOW.out.alloc _).alloc _) ⟨wr.heap.size + 1, 0, none⟩ 1 1 [.int .i64 k] rfl rfl ?c1h ?c2h ?c3h ?c4h ?c5h ?_)
          case c1h =>
            intro j u hj
            match j, hj with
            | 0, hj => simp at hj; subst hj; simp [Addr.add]
          case c2h => intro u hu; simp at hu; subst hu; rfl
          case c3h => unfold maxLen; omega
          case c4h => omega
          case c5h => have := HG.out.size; simp; omega
          · intro v' w2 hown' hgrow _
            have HR : Hid (Grows w1 w2) := ((HG.out.alloc _).alloc _).grown ((HOW.out.alloc _).alloc _) hgrow
            have HO2 : Hid (w2.ownsRow w1.heap.size 3 1 v' (L ++ [k]).length (ints (L ++ [k]))) := by unfold Hid; rw [ints_snoc, List.length_append]; exact hown'
            clear hown' hgrow
            go_wp2
            go_roundw
            case rel => exact ⟨k + 1, l.na, L ++ [k], by omega, by go_num, rfl, HNW.out.symm, by unfold Hid; rw [HS2.out, HL.out], by simp; omega, HO2.out, HR.out⟩
            case measure => simp [intOf]; omega
        · have h3' : inSec ls s k = false := by simpa using h3
          have hE : (l.na.toList == s.toList) = false := by rw [← HNW.out]; exact h3'
          have HS2 := Lib.hid (secTo_no h3')
          clear h3 h3'
          go_wp2
          go_roundw
          case rel => exact ⟨k + 1, l.na, L, by omega, by go_num, rfl, HNW.out.symm, by unfold Hid; rw [HS2.out, HL.out], by omega, HOW.out.alloc _, HG.out.alloc _⟩
          case measure => simp [intOf]; omega
      · have hB : (l.k == 2) = false := by rw [beq_eq_false_iff_ne]; exact h2
        have HNW : Hid (nowAt ls (k + 1) = t) := by unfold Hid; rw [HSU.out, if_neg h2, HT.out]
        clear h2
        by_cases h3 : inSec ls s k = true
        · have hE : (t.toList == s.toList) = true := by rw [← HNW.out]; exact h3
          have HS2 := Lib.hid (secTo_yes h3)
          clear h3
          go_wp2_with (at_builtin; refine wpList_append_own _ rfl _ _ 54 rfl w1.heap.size 3 i0 (.int .i64 0) 1 8 Tryd.underlying54 HI.out HZ0.out HZ1.out HZ2.out rfl (by decide) _ _ _ rfl ((HOW.out.alloc _).alloc _) ⟨wr.heap.size + 1, 0, none⟩ 1 1 [.int .i64 k] rfl rfl ?c1n ?c2n ?c3n ?c4n ?c5n ?_)
          case c1n =>
            intro j u hj
            match j, hj with
            | 0, hj => simp at hj; subst hj; simp [Addr.add]
          case c2n => intro u hu; simp at hu; subst hu; rfl
          case c3n => unfold maxLen; omega
          case c4n => omega
          case c5n => have := HG.out.size; simp; omega
          · intro v' w2 hown' hgrow _
            have HR : Hid (Grows w1 w2) := ((HG.out.alloc _).alloc _).grown ((HOW.out.alloc _).alloc _) hgrow
            have HO2 : Hid (w2.ownsRow w1.heap.size 3 1 v' (L ++ [k]).length (ints (L ++ [k]))) := by unfold Hid; rw [ints_snoc, List.length_append]; exact hown'
            clear hown' hgrow
            go_wp2
            go_roundw
            case rel => exact ⟨k + 1, t, L ++ [k], by omega, by go_num, rfl, HNW.out.symm, by unfold Hid; rw [HS2.out, HL.out], by simp; omega, HO2.out, HR.out⟩
            case measure => simp [intOf]; omega
        · have h3' : inSec ls s k = false := by simpa using h3
          have hE : (t.toList == s.toList) = false := by rw [← HNW.out]; exact h3'
          have HS2 := Lib.hid (secTo_no h3')
          clear h3 h3'
          go_wp2
          go_roundw
          case rel => exact ⟨k + 1, t, L, by omega, by go_num, rfl, HNW.out.symm, by unfold Hid; rw [HS2.out, HL.out], by omega, HOW.out.alloc _, HG.out.alloc _⟩
          case measure => simp [intOf]; omega
    · obtain rfl : k = n := by omega
      go_wp2
      go_ret
      obtain ⟨A', c', hv', hat', hcp'⟩ := ValsAt.of_own (base := w1.heap.size) (e := 3) (v := u5) (xs := ints L) (by rw [ints_length]; exact HOW.out)
      rw [← HN.out, HN.out, ← HL.out]
      exact ⟨A', c', by rw [← hv']; rfl, hat', HG1.out.trans HG.out, hcp'⟩
end Go.Proofs.YtclopcbpelhiaaaDoor
namespace Go.Proofs.YtclopcbpelhiaaaDoor
open Go.RowKit

/-- line i is a pair of the key -/
def isKey (ls : List Ln) (key : ByteArray) (i : Nat) : Bool := (ls[i]!.k == 3) && (ls[i]!.na.toList == key.toList)
/-- line i is a pair of the key in the section -/
def isPair (ls : List Ln) (s key : ByteArray) (i : Nat) : Bool := isKey ls key i && inSec ls s i
/-- the last pair below k, -1 if there is none -/
def lastP (ls : List Ln) (s key : ByteArray) : Nat → Int
  | 0 => -1
  | k + 1 => if isPair ls s key k = true then (k : Int) else lastP ls s key k
def pairsTo (ls : List Ln) (s key : ByteArray) (k : Nat) : List Nat := (List.range k).filter (isPair ls s key)
theorem pairsTo_eq (ls : List Ln) (s key : ByteArray) (k : Nat) : (secTo ls s k).filter (isKey ls key) = pairsTo ls s key k := by
  unfold secTo pairsTo isPair
  rw [List.filter_filter]
theorem lastP_lt (ls : List Ln) (s key : ByteArray) (k : Nat) : lastP ls s key k < k ∧ -1 ≤ lastP ls s key k := by
  induction k with
  | zero => exact ⟨by show (-1 : Int) < 0; omega, Int.le_refl _⟩
  | succ k ih =>
    unfold lastP
    split <;> omega
theorem lastP_pairs (ls : List Ln) (s key : ByteArray) (k : Nat) : lastP ls s key k = match (pairsTo ls s key k).getLast? with | some i => (i : Int) | none => -1 := by
  induction k with
  | zero => rfl
  | succ k ih =>
    have hs : pairsTo ls s key (k + 1) = pairsTo ls s key k ++ (if isPair ls s key k = true then [k] else []) := by
      unfold pairsTo
      rw [List.range_succ, List.filter_append]
      congr 1
      by_cases h : isPair ls s key k = true <;> simp [h]
    unfold lastP
    rw [hs]
    by_cases h : isPair ls s key k = true
    · rw [if_pos h, if_pos h, List.getLast?_append]
      rfl
    · rw [if_neg h, if_neg h, List.append_nil]
      exact ih
theorem get_bang {ls : List Ln} {k : Nat} (h : k < ls.length) : ls[k]! = ls[k] := by
  rw [List.getElem!_eq_getElem?_getD, List.getElem?_eq_getElem h]; rfl

set_option maxRecDepth 100000 in
set_option maxHeartbeats 2000000 in
theorem sectionAt_any (A : Option Addr) (c : Nat) (ls : List Ln) (i : Nat) (w : World) (hn : ls.length ≤ 1048576) (hi : i < ls.length) (hA : LnsAt w A ls) :
    Calls Tryd.prog 30 #[.agg #[.slice A ls.length c], .int .i64 i] w fun e w' => e = .returned (.string (nowAt ls (i + 1))) ∧ Grows w w' := by
  have HA := Lib.hid hA
  obtain ⟨n, hnn⟩ : ∃ n, ls.length = n := ⟨_, rfl⟩
  rw [hnn] at hn hi
  rw [hnn]
  have HN := Lib.hid hnn
  clear hnn hA
  go_enter Tryd.func30, Tryd.ntmps30
  go_wp2
  go_loopw [1] (fun v wr => ∃ m : Int, v = .int .i64 m ∧ -1 ≤ m ∧ m ≤ i ∧ Hid (nowAt ls (i + 1) = nowAt ls (m + 1).toNat) ∧ Grows (w.alloc (fbox A n c)) wr) (fun v _ => (intOf v + 1).toNat)
  case atStart => exact ⟨i, rfl, by omega, Int.le_refl _, rfl, Grows.refl _⟩
  case round =>
    obtain ⟨m, rfl, hm1, hm2, HM, hg⟩ := hrel
    have HG := Lib.hid hg
    have hb0 : wr.cell? ⟨w.heap.size, 0, none⟩ = some (.slice A n c) := (HG.out.cell (p := ⟨w.heap.size, 0, none⟩) (by simp)).trans (by simp [fbox])
    clear hg
    by_cases hm : 0 ≤ m
    · obtain ⟨j, rfl⟩ := Int.eq_ofNat_of_zero_le hm
      have hj : j < n := by omega
      obtain ⟨b, o, rfl, hb, hc⟩ := HA.out (by rw [HN.out]; omega)
      have hk2 : j < ls.length := by rw [HN.out]; exact hj
      have hbs : b < w.heap.size + 1 := by omega
      have HSU := Lib.hid (nowAt_succ hk2)
      obtain ⟨l, hl⟩ : ∃ l, ls[j] = l := ⟨_, rfl⟩
      have hat := (((hc j hk2).keep hb ((Grows.refl _).alloc (fbox (some ⟨b, o, none⟩) n c))).keep (by simpa using hbs) HG.out)
      rw [hl] at hat HSU
      obtain ⟨c0, c1, c2, c3, c4, c5⟩ := hat
      clear hl hc
      by_cases h2 : l.k = 2
      · have hB : (l.k == 2) = true := by rw [beq_iff_eq]; exact h2
        have HNW : Hid (nowAt ls (i + 1) = l.na) := by
          have h1 := HM.out
          rw [show ((j : Int) + 1).toNat = j + 1 from by omega] at h1
          unfold Hid; rw [h1, HSU.out, if_pos h2]
        clear h2
        go_wp2
        go_ret
        exact ⟨ret_str HNW.out.symm, ((Grows.refl _).alloc _).trans HG.out⟩
      · have hB : (l.k == 2) = false := by rw [beq_eq_false_iff_ne]; exact h2
        have HNW : Hid (nowAt ls (i + 1) = nowAt ls j) := by
          have h1 := HM.out
          rw [show ((j : Int) + 1).toNat = j + 1 from by omega] at h1
          unfold Hid; rw [h1, HSU.out, if_neg h2]
        clear h2
        go_wp2
        go_roundw
        case rel => exact ⟨(j : Int) - 1, rfl, by omega, by omega, by unfold Hid; rw [HNW.out]; congr 1; omega, HG.out⟩
        case measure => simp [intOf] <;> omega
    · obtain rfl : m = -1 := by omega
      go_wp2
      go_ret
      exact ⟨ret_str HM.out.symm, ((Grows.refl _).alloc _).trans HG.out⟩

theorem lastP_yes {ls : List Ln} {s key : ByteArray} {k : Nat} (h : isPair ls s key k = true) : lastP ls s key (k + 1) = k := by
  show (if isPair ls s key k = true then (k : Int) else lastP ls s key k) = k
  rw [if_pos h]
theorem lastP_no {ls : List Ln} {s key : ByteArray} {k : Nat} (h : isPair ls s key k = false) : lastP ls s key (k + 1) = lastP ls s key k := by
  show (if isPair ls s key k = true then (k : Int) else lastP ls s key k) = _
  rw [if_neg (by rw [h]; simp)]

set_option maxRecDepth 100000 in
set_option maxHeartbeats 2000000 in
theorem lastPair_any (A : Option Addr) (c : Nat) (ls : List Ln) (s key : ByteArray) (w : World) (hn : ls.length ≤ 1048576) (hA : LnsAt w A ls) :
    Calls Tryd.prog 29 #[.agg #[.slice A ls.length c], .string s, .string key] w fun e w' => e = .returned (.int .i64 (lastP ls s key ls.length)) ∧ Grows w w' := by
  have HA := Lib.hid hA
  have HSA := Lib.hid (fun (i : Nat) (h : i < ls.length) w1 (g : Grows w w1) => sectionAt_any A c ls i w1 hn h (hA.keep g))
  obtain ⟨n, hnn⟩ : ∃ n, ls.length = n := ⟨_, rfl⟩
  rw [hnn] at hn HSA
  rw [hnn]
  have HN := Lib.hid hnn
  clear hnn hA
  go_enter Tryd.func29, Tryd.ntmps29
  go_wp2
  go_loopw [7] (fun v wr => ∃ m : Int, v = .int .i64 m ∧ -1 ≤ m ∧ m < n ∧ Hid (lastP ls s key n = lastP ls s key (m + 1).toNat) ∧ Grows (w.alloc (fbox A n c)) wr) (fun v _ => (intOf v + 1).toNat)
  case atStart => exact ⟨(n : Int) - 1, rfl, by omega, by omega, by unfold Hid; congr 1; omega, Grows.refl _⟩
  case round =>
    obtain ⟨m, rfl, hm1, hm2, HM, hg⟩ := hrel
    have HG := Lib.hid hg
    have hb0 : wr.cell? ⟨w.heap.size, 0, none⟩ = some (.slice A n c) := (HG.out.cell (p := ⟨w.heap.size, 0, none⟩) (by simp)).trans (by simp [fbox])
    clear hg
    by_cases hm : 0 ≤ m
    · obtain ⟨j, rfl⟩ := Int.eq_ofNat_of_zero_le hm
      have hj : j < n := by omega
      obtain ⟨b, o, rfl, hb, hc⟩ := HA.out (by rw [HN.out]; omega)
      have hk2 : j < ls.length := by rw [HN.out]; exact hj
      have hbs : b < w.heap.size + 1 := by omega
      have HSU := Lib.hid (get_bang hk2)
      obtain ⟨l, hl⟩ : ∃ l, ls[j] = l := ⟨_, rfl⟩
      have hat := (((hc j hk2).keep hb ((Grows.refl _).alloc (fbox (some ⟨b, o, none⟩) n c))).keep (by simpa using hbs) HG.out)
      rw [hl] at hat HSU
      obtain ⟨c0, c1, c2, c3, c4, c5⟩ := hat
      have HK : Hid (isPair ls s key j = ((l.k == 3) && ((l.na.toList == key.toList) && ((nowAt ls (j + 1)).toList == s.toList)))) := by
        unfold Hid isPair isKey inSec
        rw [HSU.out, Bool.and_assoc]
      clear hl hc
      have HC := Lib.hid (HSA.out j hj)
      obtain ⟨x, hx⟩ : ∃ x, nowAt ls (j + 1) = x := ⟨_, rfl⟩
      rw [hx] at HC HK
      clear hx
      go_wp2_with (go_at_call 30; refine (HC.out _ (((Grows.refl _).alloc _).trans HG.out)).mono ?_; rintro e w2 ⟨rfl, hg2⟩)
      · have a1 : l.k = 3 := by assumption
        have a2 : l.na.toList = key.toList := by assumption
        have a3 : (x.toList == s.toList) = true := by assumption
        have HL : Hid (lastP ls s key n = j) := by
          have h1 := HM.out
          rw [show ((j : Int) + 1).toNat = j + 1 from by omega, lastP_yes (by rw [HK.out, a3]; simp [a1, a2])] at h1
          exact h1
        go_ret
        exact ⟨ret_int HL.out.symm, (((Grows.refl _).alloc _).trans HG.out).trans hg2⟩
      · have a3 : (x.toList == s.toList) = false := by assumption
        have HL : Hid (lastP ls s key n = lastP ls s key ((j : Int) - 1 + 1).toNat) := by
          have h1 := HM.out
          rw [show ((j : Int) + 1).toNat = j + 1 from by omega, lastP_no (by rw [HK.out]; rw [a3]; simp)] at h1
          unfold Hid
          rw [h1]; congr 1; omega
        go_roundw
        case rel => exact ⟨(j : Int) - 1, rfl, by omega, by omega, HL.out, HG.out.trans hg2⟩
        case measure => simp [intOf] <;> omega
      · have a2 : ¬ l.na.toList = key.toList := by assumption
        have HL : Hid (lastP ls s key n = lastP ls s key ((j : Int) - 1 + 1).toNat) := by
          have h1 := HM.out
          rw [show ((j : Int) + 1).toNat = j + 1 from by omega, lastP_no (by rw [HK.out]; simp [a2])] at h1
          unfold Hid
          rw [h1]; congr 1; omega
        go_roundw
        case rel => exact ⟨(j : Int) - 1, rfl, by omega, by omega, HL.out, HG.out⟩
        case measure => simp [intOf] <;> omega
      · have a1 : ¬ l.k = 3 := by assumption
        have HL : Hid (lastP ls s key n = lastP ls s key ((j : Int) - 1 + 1).toNat) := by
          have h1 := HM.out
          rw [show ((j : Int) + 1).toNat = j + 1 from by omega, lastP_no (by rw [HK.out]; simp [a1])] at h1
          unfold Hid
          rw [h1]; congr 1; omega
        go_roundw
        case rel => exact ⟨(j : Int) - 1, rfl, by omega, by omega, HL.out, HG.out⟩
        case measure => simp [intOf] <;> omega
    · obtain rfl : m = -1 := by omega
      go_wp2
      go_ret
      exact ⟨ret_int HM.out.symm, ((Grows.refl _).alloc _).trans HG.out⟩

/-- the line of a key in a file, -1 if there is none or the file is not valid -/
def whereOf (ls : List Ln) (s key : ByteArray) : Int := if vfile ls = true then lastP ls s key ls.length else -1
theorem whereOf_yes {ls : List Ln} (s key : ByteArray) (h : vfile ls = true) : whereOf ls s key = lastP ls s key ls.length := by rw [whereOf, if_pos h]
theorem whereOf_no {ls : List Ln} (s key : ByteArray) (h : vfile ls = false) : whereOf ls s key = -1 := by rw [whereOf, if_neg (by rw [h]; simp)]

end Go.Proofs.YtclopcbpelhiaaaDoor
namespace Go.Proofs.YtclopcbpelhiaaaDoor
open Go.RowKit

/-- the lines of a section of a file, none if it is not valid -/
def secOf (ls : List Ln) (s : ByteArray) : List Nat := if vfile ls = true then secTo ls s ls.length else []
/-- the pairs of a key of a file, none if it is not valid -/
def pairsOf' (ls : List Ln) (s key : ByteArray) : List Nat := if vfile ls = true then pairsTo ls s key ls.length else []
theorem pairsOf_eq (ls : List Ln) (s key : ByteArray) : (secOf ls s).filter (isKey ls key) = pairsOf' ls s key := by
  unfold secOf pairsOf'
  split
  · exact pairsTo_eq _ _ _ _
  · rfl
theorem secOf_lt {ls : List Ln} {s : ByteArray} {i : Nat} (h : i ∈ secOf ls s) : i < ls.length := by
  unfold secOf at h
  split at h
  · exact secTo_lt h
  · cases h
theorem secOf_le (ls : List Ln) (s : ByteArray) : (secOf ls s).length ≤ ls.length := by
  unfold secOf
  split
  · exact secTo_le _ _ _
  · exact Nat.zero_le _
theorem whereOf_eq (ls : List Ln) (s key : ByteArray) : whereOf ls s key = match (pairsOf' ls s key).getLast? with | some i => (i : Int) | none => -1 := by
  unfold whereOf pairsOf'
  by_cases h : vfile ls = true
  · rw [if_pos h, if_pos h]; exact lastP_pairs _ _ _ _
  · rw [if_neg h, if_neg h]; rfl

set_option maxRecDepth 100000 in
set_option maxHeartbeats 2000000 in
theorem linesIn_all (A : Option Addr) (c : Nat) (ls : List Ln) (s : ByteArray) (w : World) (hf : AllFit ls) (hA : LnsAt w A ls) :
    Calls Tryd.prog 41 #[.agg #[.slice A ls.length c], .string s] w (ValsRet (ints (secOf ls s)) w) := by
  by_cases hv : vfile ls = true
  · have := linesIn_any A c ls s w hf hv hA
    unfold secOf
    rw [if_pos hv]
    exact this
  · have hv' : vfile ls = false := by simpa using hv
    have HF := Lib.hid (fun w1 (g : Grows w w1) => implFile_any A c ls w1 hf (hA.keep g))
    rw [hv'] at HF
    have HV : Hid (secOf ls s = []) := by unfold Hid secOf; rw [if_neg hv]
    clear hv hv' hA hf
    go_enter Tryd.func41, Tryd.ntmps41
    go_wp2_with fail
    refine (HF.out _ ((Grows.refl _).alloc _)).mono ?_
    rintro e w1 ⟨rfl, g1⟩
    go_wp2
    go_ret
    rw [HV.out]
    exact ⟨none, 0, rfl, fun h => absurd h (Nat.lt_irrefl _), ((Grows.refl _).alloc _).trans g1, Nat.le_refl _⟩

set_option maxRecDepth 100000 in
set_option maxHeartbeats 2000000 in
theorem pairsOf_any (A : Option Addr) (c : Nat) (ls : List Ln) (s key : ByteArray) (w : World) (hf : AllFit ls) (hA : LnsAt w A ls) :
    Calls Tryd.prog 26 #[.agg #[.slice A ls.length c], .string s, .string key] w (ValsRet (ints (pairsOf' ls s key)) w) := by
  have HF := Lib.hid (fun w1 (g : Grows w w1) => linesIn_all A c ls s w1 hf (hA.keep g))
  have HA := Lib.hid hA
  have hn : ls.length ≤ 1048576 := hf.1
  have HE := Lib.hid (pairsOf_eq ls s key)
  have HLT : Hid (∀ i (h : i < (secOf ls s).length), (secOf ls s)[i] < ls.length) := fun i h => secOf_lt (List.getElem_mem h)
  have hL := secOf_le ls s
  clear hA hf
  obtain ⟨L, hLL⟩ : ∃ L, secOf ls s = L := ⟨_, rfl⟩
  rw [hLL] at HF HE HLT hL
  clear hLL
  obtain ⟨n, hnn⟩ : ∃ n, ls.length = n := ⟨_, rfl⟩
  rw [hnn] at hn HF HLT hL
  rw [hnn]
  have HN := Lib.hid hnn
  clear hnn
  obtain ⟨i0, hi, hz0, hz1, hz2⟩ := info_parts infoInt
  have HI : Hid (Tryd.prog.info? 3 = some i0) := hi
  have HZ0 : Hid (i0.zero = some (.int .i64 0)) := hz0
  have HZ1 : Hid (i0.size = 1) := hz1
  have HZ2 : Hid (i0.bytes = 8) := hz2
  clear hi hz0 hz1 hz2
  go_enter Tryd.func26, Tryd.ntmps26
  go_wp2_with fail
  refine (HF.out _ ((Grows.refl _).alloc _)).mono ?_
  rintro e w1 ⟨A1, c1, rfl, hv1, g1, _⟩
  have HG0 : Hid (Grows (w.alloc (fbox A n c)) w1) := g1
  have HV1 := Lib.hid hv1
  have HG1 : Hid (Grows w w1) := ((Grows.refl _).alloc _).trans g1
  clear g1 hv1
  rw [ints_length]
  obtain ⟨p, hp⟩ : ∃ p, L.length = p := ⟨_, rfl⟩
  rw [hp]
  rw [hp] at hL
  have HP := Lib.hid hp
  clear hp
  go_wp2_with fail
  go_loopw [7, 14] (fun v i wr => ∃ (j : Nat) (R : List Nat), j ≤ p ∧ i = .int .i64 j ∧ Hid (R = (L.take j).filter (isKey ls key)) ∧ R.length ≤ j ∧ wr.ownsRow w1.heap.size 3 1 v R.length (ints R) ∧ Grows w1 wr) (fun _ i _ => p - (intOf i).toNat)
  case atStart => exact ⟨0, [], Nat.zero_le _, rfl, rfl, Nat.zero_le _, World.ownsRow_nil _ _ _ _, Grows.refl _⟩
  case round =>
    obtain ⟨j, R, hj, rfl, HR, hRj, hown, hg⟩ := hrel
    have HG := Lib.hid hg
    have HOW := Lib.hid hown
    have hb0 : wr.cell? ⟨w.heap.size, 0, none⟩ = some (.slice A n c) := ((HG0.out.trans HG.out).cell (p := ⟨w.heap.size, 0, none⟩) (by simp)).trans (by simp [fbox])
    clear hg hown
    by_cases hlt : j < p
    · have hjL : j < L.length := by rw [HP.out]; exact hlt
      have hx := HLT.out j hjL
      have hTS : L.take (j + 1) = L.take j ++ [L[j]] := List.take_succ_eq_append_getElem hjL
      obtain ⟨b1, o1, rfl, hb1, hc1⟩ := HV1.out (by rw [ints_length]; omega)
      have d0 := hc1 j (by rw [ints_length]; exact hjL)
      have hix : (ints L)[j]'(by rw [ints_length]; exact hjL) = Value.int .i64 (L[j] : Int) := by simp [ints]
      rw [hix] at d0
      obtain ⟨x, hxx⟩ : ∃ x, L[j] = x := ⟨_, rfl⟩
      rw [hxx] at hx hTS d0
      have d1 : wr.cell? ⟨b1, o1 + j, none⟩ = some (.int .i64 x) := (HG.out.cell (p := ⟨b1, o1 + j, none⟩) hb1).trans d0
      obtain ⟨b, o, rfl, hb, hc⟩ := HA.out (by rw [HN.out]; omega)
      have hk2 : x < ls.length := by rw [HN.out]; exact hx
      have HSU := Lib.hid (get_bang hk2)
      obtain ⟨l, hl⟩ : ∃ l, ls[x] = l := ⟨_, rfl⟩
      have hat := (hc x hk2).keep hb (HG1.out.trans HG.out)
      rw [hl] at hat HSU
      obtain ⟨c0, c1', c2, c3, c4, c5⟩ := hat
      have HK : Hid (isKey ls key x = ((l.k == 3) && (l.na.toList == key.toList))) := by
        unfold Hid isKey
        rw [HSU.out]
      have HTS := Lib.hid hTS
      clear hl hc hc1 hix d0 hxx hTS
      by_cases hk : isKey ls key x = true
      · have HS2 : Hid ((L.take (j + 1)).filter (isKey ls key) = R ++ [x]) := by
          unfold Hid; rw [HTS.out, List.filter_append, ← HR.out]; simp [hk]
        rw [HK.out, Bool.and_eq_true] at hk
        obtain ⟨e1, e2⟩ := hk
        go_wp2_with (at_builtin; refine wpList_append_own _ rfl _ _ 54 rfl w1.heap.size 3 i0 (.int .i64 0) 1 8 Tryd.underlying54 HI.out HZ0.out HZ1.out HZ2.out rfl (by decide) _ _ _ rfl (HOW.out.alloc _) ⟨wr.heap.size, 0, none⟩ 1 1 [.int .i64 x] rfl rfl ?c1 ?c2 ?c3 ?c4 ?c5 ?_)
        case c1 =>
          intro j u hj
          match j, hj with
          | 0, hj => simp at hj; subst hj; simp [Addr.add]
        case c2 => intro u hu; simp at hu; subst hu; rfl
        case c3 => unfold maxLen; omega
        case c4 => omega
        case c5 => have := HG.out.size; simp; omega
        · intro v' w2 hown' hgrow _
          have HR2 : Hid (Grows w1 w2) := (HG.out.alloc _).grown (HOW.out.alloc _) hgrow
          have HO2 : Hid (w2.ownsRow w1.heap.size 3 1 v' (R ++ [x]).length (ints (R ++ [x]))) := by unfold Hid; rw [ints_snoc, List.length_append]; exact hown'
          clear hown' hgrow
          go_wp2
          go_roundw
          case rel => exact ⟨j + 1, R ++ [x], by omega, by go_num, HS2.out.symm, by simp; omega, HO2.out, HR2.out⟩
          case measure => simp [intOf]; omega
      · have hk' : isKey ls key x = false := by simpa using hk
        have HS2 : Hid ((L.take (j + 1)).filter (isKey ls key) = R) := by
          unfold Hid; rw [HTS.out, List.filter_append, ← HR.out]; simp [hk']
        rw [HK.out, Bool.and_eq_false_iff] at hk'
        clear hk
        by_cases e1 : (l.k == 3) = true
        · have e2 : (l.na.toList == key.toList) = false := by
            rcases hk' with h | h
            · rw [e1] at h; cases h
            · exact h
          clear hk'
          go_wp2
          go_roundw
          case rel => exact ⟨j + 1, R, by omega, by go_num, HS2.out.symm, by omega, HOW.out, HG.out⟩
          case measure => simp [intOf]; omega
        · have e1' : (l.k == 3) = false := by simpa using e1
          clear hk' e1
          go_wp2
          go_roundw
          case rel => exact ⟨j + 1, R, by omega, by go_num, HS2.out.symm, by omega, HOW.out, HG.out⟩
          case measure => simp [intOf]; omega
    · obtain rfl : j = p := by omega
      have HRR : Hid (R = pairsOf' ls s key) := by
        unfold Hid
        rw [← HE.out, HR.out, ← HP.out, List.take_length]
      go_wp2
      go_ret
      obtain ⟨A', c', hv', hat', hcp'⟩ := ValsAt.of_own (base := w1.heap.size) (e := 3) (v := u7) (xs := ints R) (by rw [ints_length]; exact HOW.out)
      rw [← HRR.out]
      exact ⟨A', c', by rw [← hv']; rfl, hat', HG1.out.trans HG.out, hcp'⟩

set_option maxRecDepth 100000 in
set_option maxHeartbeats 2000000 in
theorem implWhere_any (A : Option Addr) (c : Nat) (ls : List Ln) (s key : ByteArray) (w : World) (hf : AllFit ls) (hA : LnsAt w A ls) :
    Calls Tryd.prog 31 #[.agg #[.slice A ls.length c], .string s, .string key] w fun e w' => e = .returned (.int .i64 (whereOf ls s key)) ∧ Grows w w' := by
  have HF := Lib.hid (fun w1 (g : Grows w w1) => pairsOf_any A c ls s key w1 hf (hA.keep g))
  have HW := Lib.hid (whereOf_eq ls s key)
  have hn : ls.length ≤ 1048576 := hf.1
  have hpl : (pairsOf' ls s key).length ≤ ls.length := by
    rw [← pairsOf_eq]
    exact Nat.le_trans (List.length_filter_le _ _) (secOf_le _ _)
  clear hA hf
  obtain ⟨R, hR⟩ : ∃ R, pairsOf' ls s key = R := ⟨_, rfl⟩
  rw [hR] at HF HW hpl
  clear hR
  by_cases h0 : R.length = 0
  · have hR0 : R = [] := List.eq_nil_of_length_eq_zero h0
    subst hR0
    have HV : Hid (whereOf ls s key = -1) := HW.out
    clear h0
    go_enter Tryd.func31, Tryd.ntmps31
    go_wp2_with fail
    refine (HF.out _ ((Grows.refl _).alloc _)).mono ?_
    rintro e w1 ⟨A1, c1, rfl, hv1, g1, _⟩
    go_wp2
    go_ret
    exact ⟨ret_int HV.out.symm, ((Grows.refl _).alloc _).trans g1⟩
  · have h1 : R.length - 1 < R.length := by omega
    have HV : Hid (whereOf ls s key = (R[R.length - 1] : Nat)) := by
      unfold Hid
      rw [HW.out, List.getLast?_eq_getElem?, List.getElem?_eq_getElem h1]
    go_enter Tryd.func31, Tryd.ntmps31
    go_wp2_with fail
    refine (HF.out _ ((Grows.refl _).alloc _)).mono ?_
    rintro e w1 ⟨A1, c1, rfl, hv1, g1, _⟩
    obtain ⟨b1, o1, rfl, hb1, hc1⟩ := hv1 (by rw [ints_length]; omega)
    have d0 := hc1 (R.length - 1) (by rw [ints_length]; exact h1)
    have hix : (ints R)[R.length - 1]'(by rw [ints_length]; exact h1) = Value.int .i64 (R[R.length - 1] : Nat) := by simp [ints]
    rw [hix] at d0
    rw [ints_length]
    obtain ⟨x, hxx⟩ : ∃ x, R[R.length - 1] = x := ⟨_, rfl⟩
    rw [hxx] at d0 HV
    clear hix hxx hc1
    obtain ⟨q, hq⟩ : ∃ q, R.length = q + 1 := ⟨R.length - 1, by omega⟩
    rw [hq] at d0 hpl ⊢
    have d1 : w1.cell? ⟨b1, o1 + q, none⟩ = some (.int .i64 x) := d0
    clear d0 h0 h1 hq
    go_wp2
    go_ret
    exact ⟨ret_int HV.out.symm, ((Grows.refl _).alloc _).trans g1⟩

theorem implWhere_w (A : Option Addr) (c : Nat) (ls : List Ln) (s key : ByteArray) (w : World) (hf : AllFit ls) (_hw : wlines ls ≤ 1048576) (_h1 : s.size ≤ maxLen) (_h2 : key.size ≤ maxLen) (hA : LnsAt w A ls) :
    Calls Tryd.prog 31 #[.agg #[.slice A ls.length c], .string s, .string key] w fun e w' => e = .returned (.int .i64 (whereOf ls s key)) ∧ Grows w w' := implWhere_any A c ls s key w hf hA
end Go.Proofs.YtclopcbpelhiaaaDoor
namespace Go.Proofs.YtclopcbpelhiaaaDoor
open Go.RowKit

/-- the value of a key of a file -/
def getV (ls : List Ln) (s key : ByteArray) : ByteArray := if whereOf ls s key < 0 then ⟨#[]⟩ else ls[(whereOf ls s key).toNat]!.va
/-- a key of a file is there -/
def getB (ls : List Ln) (s key : ByteArray) : Bool := !decide (whereOf ls s key < 0)
theorem get_no {ls : List Ln} {s key : ByteArray} (h : whereOf ls s key < 0) : getV ls s key = ⟨#[]⟩ ∧ getB ls s key = false := by
  unfold getV getB
  rw [if_pos h]
  exact ⟨rfl, by simp [h]⟩
theorem get_yes {ls : List Ln} {s key : ByteArray} {k : Nat} (h : whereOf ls s key = k) (hk : k < ls.length) : getV ls s key = ls[k].va ∧ getB ls s key = true := by
  unfold getV getB
  rw [h, if_neg (by omega), Int.toNat_natCast, get_bang hk]
  exact ⟨rfl, by simp⟩
theorem where_lt (ls : List Ln) (s key : ByteArray) : whereOf ls s key < ls.length ∧ -1 ≤ whereOf ls s key := by
  unfold whereOf
  split
  · exact lastP_lt _ _ _ _
  · omega

theorem ret_get {a b : ByteArray} {p q : Bool} (h : a = b) (h2 : p = q) : Ending.returned (.tuple #[.string a, .bool p]) = .returned (.tuple #[.string b, .bool q]) := by rw [h, h2]

set_option maxRecDepth 100000 in
set_option maxHeartbeats 2000000 in
theorem implGet_any (A : Option Addr) (c : Nat) (ls : List Ln) (s key : ByteArray) (w : World) (hf : AllFit ls) (hA : LnsAt w A ls) :
    Calls Tryd.prog 10 #[.agg #[.slice A ls.length c], .string s, .string key] w fun e w' => e = .returned (.tuple #[.string (getV ls s key), .bool (getB ls s key)]) ∧ Grows w w' := by
  have HF := Lib.hid (fun w1 (g : Grows w w1) => implWhere_any A c ls s key w1 hf (hA.keep g))
  have HA := Lib.hid hA
  have hn := hf.1
  have hw := where_lt ls s key
  clear hA hf
  by_cases h0 : whereOf ls s key < 0
  · obtain ⟨e1, e2⟩ := get_no h0
    have HV := Lib.hid e1
    have HB := Lib.hid e2
    have hm : whereOf ls s key = -1 := by omega
    rw [hm] at HF
    clear e1 e2 hm hw h0
    go_enter Tryd.func10, Tryd.ntmps10
    go_wp2_with fail
    refine (HF.out _ ((Grows.refl _).alloc _)).mono ?_
    rintro e w1 ⟨rfl, g1⟩
    go_wp2
    go_ret2
    exact ⟨ret_get HV.out.symm HB.out.symm, ((Grows.refl _).alloc _).trans g1⟩
  · obtain ⟨k, hk⟩ : ∃ k : Nat, whereOf ls s key = k := ⟨(whereOf ls s key).toNat, by omega⟩
    have hk2 : k < ls.length := by omega
    obtain ⟨e1, e2⟩ := get_yes hk hk2
    have HV := Lib.hid e1
    have HB := Lib.hid e2
    rw [hk] at HF
    clear e1 e2 hw h0 hk
    obtain ⟨b, o, rfl, hb, hc⟩ := HA.out (by omega)
    have hat := hc k hk2
    obtain ⟨l, hl⟩ : ∃ l, ls[k] = l := ⟨_, rfl⟩
    rw [hl] at hat HV
    clear hl hc
    obtain ⟨n, hnn⟩ : ∃ n, ls.length = n := ⟨_, rfl⟩
    rw [hnn] at hn hk2 HF
    rw [hnn]
    clear hnn
    have HAT := Lib.hid hat
    clear hat
    go_enter Tryd.func10, Tryd.ntmps10
    go_wp2_with fail
    refine (HF.out _ ((Grows.refl _).alloc _)).mono ?_
    rintro e w1 ⟨rfl, g1⟩
    have hb0 : w1.cell? ⟨w.heap.size, 0, none⟩ = some (.slice (some ⟨b, o, none⟩) n c) := (g1.cell (p := ⟨w.heap.size, 0, none⟩) (by simp)).trans (by simp)
    obtain ⟨c0, c1, c2, c3, c4, c5⟩ := HAT.out.keep hb (((Grows.refl _).alloc _).trans g1)
    go_wp2
    go_ret2
    exact ⟨ret_get HV.out.symm HB.out.symm, ((Grows.refl _).alloc _).trans g1⟩

theorem implGet_w (A : Option Addr) (c : Nat) (ls : List Ln) (s key : ByteArray) (w : World) (hf : AllFit ls) (_hw : wlines ls ≤ 1048576) (_h1 : s.size ≤ maxLen) (_h2 : key.size ≤ maxLen) (hA : LnsAt w A ls) :
    Calls Tryd.prog 10 #[.agg #[.slice A ls.length c], .string s, .string key] w fun e w' => e = .returned (.tuple #[.string (getV ls s key), .bool (getB ls s key)]) ∧ Grows w w' := implGet_any A c ls s key w hf hA
end Go.Proofs.YtclopcbpelhiaaaDoor
