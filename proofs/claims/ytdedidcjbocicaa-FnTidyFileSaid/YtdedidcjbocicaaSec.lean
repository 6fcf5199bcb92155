/-
  Which lines are of a section, plainly, and what the program's linesIn returns. Conditions: at most 1048576 bytes in all.
-/
import Derived.Test.YtdedidcjbocicaaLawF
import Derived.Laws.OwnMore
import Derived.Deep.AppendLies
import Derived.Maps.AppendAt
namespace Go.Proofs.Ytdedidcjbocicaa
open Go.RowKit

instance : Inhabited Ln := ⟨⟨0, ⟨#[]⟩, ⟨#[]⟩, ⟨#[]⟩, ⟨#[]⟩, ⟨#[]⟩⟩⟩
/-- the section behind k lines -/
def nowAt (ls : List Ln) (k : Nat) : ByteArray := (ls.take k).foldl (fun now l => if l.k = 2 then l.na else now) ⟨#[]⟩
theorem nowAt_succ {ls : List Ln} {k : Nat} (hk : k < ls.length) : nowAt ls (k + 1) = if ls[k].k = 2 then ls[k].na else nowAt ls k := by
  unfold nowAt
  rw [List.take_succ_eq_append_getElem hk, List.foldl_append]
  rfl
/-- line i is of the section s -/
def inSec (ls : List Ln) (s : ByteArray) (i : Nat) : Bool := (nowAt ls (i + 1)).toList == s.toList
/-- of the first k lines those of the section s -/
def secTo (ls : List Ln) (s : ByteArray) (k : Nat) : List Nat := (List.range k).filter (inSec ls s)
theorem secTo_yes {ls : List Ln} {s : ByteArray} {k : Nat} (h : inSec ls s k = true) : secTo ls s (k + 1) = secTo ls s k ++ [k] := by
  unfold secTo
  rw [List.range_succ, List.filter_append]
  simp [h]
theorem secTo_no {ls : List Ln} {s : ByteArray} {k : Nat} (h : inSec ls s k = false) : secTo ls s (k + 1) = secTo ls s k := by
  unfold secTo
  rw [List.range_succ, List.filter_append]
  simp [h]
theorem secTo_le (ls : List Ln) (s : ByteArray) (k : Nat) : (secTo ls s k).length ≤ k := by
  unfold secTo
  have := List.length_filter_le (inSec ls s) (List.range k)
  simpa using this
theorem secTo_lt {ls : List Ln} {s : ByteArray} {k i : Nat} (h : i ∈ secTo ls s k) : i < k := by
  unfold secTo at h
  have := (List.mem_filter.1 h).1
  simpa using this

/-- numbers as cells -/
def ints (l : List Nat) : List Value := l.map fun (i : Nat) => Value.int .i64 (i : Int)
/-- a slice whose cells are these values -/
def ValsAt (w : World) (A : Option Addr) (xs : List Value) : Prop :=
  0 < xs.length → ∃ b o, A = some ⟨b, o, none⟩ ∧ b < w.heap.size ∧ ∀ i (h : i < xs.length), w.cell? ⟨b, o + i, none⟩ = some xs[i]
theorem ValsAt.keep {w w' : World} {A : Option Addr} {xs : List Value} (h : ValsAt w A xs) (g : Grows w w') : ValsAt w' A xs := fun h0 => by
  obtain ⟨b, o, e, hb, hc⟩ := h h0
  exact ⟨b, o, e, Nat.lt_of_lt_of_le hb g.size, fun i hi => (g.cell (p := ⟨b, o + i, none⟩) hb).trans (hc i hi)⟩
theorem ValsAt.of_own {w : World} {base : Nat} {e : TypeId} {v : Value} {xs : List Value} (h : w.ownsRow base e 1 v xs.length xs) : ∃ A c, v = .slice A xs.length c ∧ ValsAt w A xs ∧ xs.length ≤ c := by
  rcases Nat.eq_zero_or_pos xs.length with h0 | h0
  · rcases h.2 with ⟨rfl, _⟩ | ⟨g, cap, cur, rfl, _⟩
    · exact ⟨none, 0, by rw [h0], fun hh => absurd hh (by omega), by omega⟩
    · exact ⟨_, _, rfl, fun hh => absurd hh (by omega), by omega⟩
  · obtain ⟨g, cap, hv, _, hlt⟩ := h.form h0
    have hcap : xs.length ≤ cap := by
      rcases h.2 with ⟨h1, _⟩ | ⟨g', cap', cur, h1, _, _, h2, _⟩
      · rw [hv] at h1; cases h1
      · rw [hv] at h1; injection h1 with _ _ h3; omega
    refine ⟨some ⟨g, 0, none⟩, cap, hv, fun _ => ⟨g, 0, rfl, hlt, fun i hi => ?_⟩, hcap⟩
    have := h.cells (g := g) (by rw [hv]; rfl) i xs[i] (List.getElem?_eq_getElem hi)
    have ea : (⟨g, 0, none⟩ : Addr).add i = ⟨g, 0 + i, none⟩ := by unfold Addr.add; split <;> simp_all
    rw [ea] at this
    exact this

theorem own_base {w : World} {base : Nat} {e : TypeId} {size n : Nat} {v : Value} {xs : List Value} (h : w.ownsRow base e size v n xs) : ∀ g, v.ownBlock = some g → base ≤ g := by
  intro g hg
  rcases h.2 with ⟨rfl, _⟩ | ⟨g', cap, cur, rfl, hb, _⟩
  · simp [Value.ownBlock] at hg
  · have : g' = g := by simpa [Value.ownBlock] using hg
    omega
theorem Grows.grown {a b c : World} {e : TypeId} {size n : Nat} {v : Value} {xs : List Value} (h : Grows a b) (ho : b.ownsRow a.heap.size e size v n xs) (hg : b.grownBy c v.ownBlock) : Grows a c :=
  Below.grown h hg h.size (own_base ho)
theorem ints_snoc (L : List Nat) (k : Nat) : ints (L ++ [k]) = ints L ++ [Value.int .i64 (k : Int)] := by simp [ints]
theorem ints_length (L : List Nat) : (ints L).length = L.length := by simp [ints]

theorem infoInt : (Try.prog.info? 3).map (fun i => (i.zero, i.size, i.bytes)) = some (some (.int .i64 0), 1, 8) := by kernel_rfl

/-- a call's end: it returns a slice of these values, in memory that is new -/
def ValsRet (xs : List Value) (w : World) (e : Ending) (w' : World) : Prop := ∃ A c, e = .returned (.slice A xs.length c) ∧ ValsAt w' A xs ∧ Grows w w' ∧ xs.length ≤ c

set_option maxRecDepth 100000 in
set_option maxHeartbeats 2000000 in
theorem linesIn_any (A : Option Addr) (c : Nat) (ls : List Ln) (s : ByteArray) (w : World) (hf : AllFit ls) (hv : vfile ls = true) (hA : LnsAt w A ls) :
    Calls Try.prog 50 #[.agg #[.slice A ls.length c], .string s] w (ValsRet (ints (secTo ls s ls.length)) w) := by
  have HF := Lib.hid (fun w1 (g : Grows w w1) => implFile_any A c ls w1 hf (hA.keep g))
  rw [hv] at HF
  have HA := Lib.hid hA
  have hn : ls.length ≤ 1048576 := hf.1
  clear hA hf hv
  obtain ⟨n, hnn⟩ : ∃ n, ls.length = n := ⟨_, rfl⟩
  rw [hnn] at hn HF
  rw [hnn]
  have HN := Lib.hid hnn
  clear hnn
  obtain ⟨i0, hi, hz0, hz1, hz2⟩ := info_parts infoInt
  have HI : Hid (Try.prog.info? 3 = some i0) := hi
  have HZ0 : Hid (i0.zero = some (.int .i64 0)) := hz0
  have HZ1 : Hid (i0.size = 1) := hz1
  have HZ2 : Hid (i0.bytes = 8) := hz2
  clear hi hz0 hz1 hz2
  go_enter Try.func50, Try.ntmps50
  go_wp2_with fail
  refine (HF.out _ ((Grows.refl _).alloc _)).mono ?_
  rintro e w1 ⟨rfl, g1⟩
  have hx1 : w1.cell? ⟨w.heap.size, 0, none⟩ = some (.slice A n c) := (g1.cell (p := ⟨w.heap.size, 0, none⟩) (by simp)).trans (by simp)
  have HG1 : Hid (Grows w w1) := ((Grows.refl _).alloc _).trans g1
  clear g1
  go_wp2_with fail
  go_loopw [5, 6, 15] (fun v nw i wr => ∃ (k : Nat) (t : ByteArray) (L : List Nat), k ≤ n ∧ i = .int .i64 k ∧ nw = .string t ∧ Hid (t = nowAt ls k) ∧ Hid (L = secTo ls s k) ∧ L.length ≤ k ∧ wr.ownsRow w1.heap.size 3 1 v L.length (ints L) ∧ Grows w1 wr) (fun _ _ i _ => n - (intOf i).toNat)
  case atStart => exact ⟨0, ⟨#[]⟩, [], Nat.zero_le _, rfl, rfl, rfl, rfl, Nat.zero_le _, World.ownsRow_nil _ _ _ _, Grows.refl _⟩
  case round =>
    obtain ⟨k, t, L, hk, rfl, rfl, HT, HL, hLk, hown, hg⟩ := hrel
    have HG := Lib.hid hg
    have HOW := Lib.hid hown
    clear hg hx1 hown
    by_cases hlt : k < n
    · obtain ⟨b, o, rfl, hb, hc⟩ := HA.out (by rw [HN.out]; omega)
      have hk2 : k < ls.length := by rw [HN.out]; exact hlt
      have HSU := Lib.hid (nowAt_succ hk2)
      obtain ⟨l, hl⟩ : ∃ l, ls[k] = l := ⟨_, rfl⟩
      have hat := (hc k hk2).keep hb (HG1.out.trans HG.out)
      rw [hl] at hat HSU
      obtain ⟨c0, c1, c2, c3, c4, c5⟩ := hat
      clear hl hc
      by_cases h2 : l.k = 2
      · have hB : (l.k == 2) = true := by rw [beq_iff_eq]; exact h2
        have HNW : Hid (nowAt ls (k + 1) = l.na) := by unfold Hid; rw [HSU.out, if_pos h2]
        clear h2
        by_cases h3 : inSec ls s k = true
        · have hE : (l.na.toList == s.toList) = true := by rw [← HNW.out]; exact h3
          have HS2 := Lib.hid (secTo_yes h3)
          clear h3
          go_wp2_with (at_builtin; refine wpList_append_own _ rfl _ _ 70 rfl w1.heap.size 3 i0 (.int .i64 0) 1 8 Try.underlying70 HI.out HZ0.out HZ1.out HZ2.out rfl (by decide) _ _ _ rfl ((HOW.out.alloc _).alloc _) ⟨wr.heap.size + 1, 0, none⟩ 1 1 [.int .i64 k] rfl rfl ?c1h ?c2h ?c3h ?c4h ?c5h ?_)
          case c1h =>
            intro j u hj
            match j, hj with
            | 0, hj => simp at hj; subst hj; simp [Addr.add]
          case c2h => intro u hu; simp at hu; subst hu; rfl
          case c3h => unfold maxLen; omega
          case c4h => omega
          case c5h => have := HG.out.size; simp; omega
          · intro v' w2 hown' hgrow _
            have HR : Hid (Grows w1 w2) := ((HG.out.alloc _).alloc _).grown ((HOW.out.alloc _).alloc _) hgrow
            have HO2 : Hid (w2.ownsRow w1.heap.size 3 1 v' (L ++ [k]).length (ints (L ++ [k]))) := by unfold Hid; rw [ints_snoc, List.length_append]; exact hown'
            clear hown' hgrow
            go_wp2
            go_roundw
            case rel => exact ⟨k + 1, l.na, L ++ [k], by omega, by go_num, rfl, HNW.out.symm, by unfold Hid; rw [HS2.out, HL.out], by simp; omega, HO2.out, HR.out⟩
            case measure => simp [intOf]; omega
        · have h3' : inSec ls s k = false := by simpa using h3
          have hE : (l.na.toList == s.toList) = false := by rw [← HNW.out]; exact h3'
          have HS2 := Lib.hid (secTo_no h3')
          clear h3 h3'
          go_wp2
          go_roundw
          case rel => exact ⟨k + 1, l.na, L, by omega, by go_num, rfl, HNW.out.symm, by unfold Hid; rw [HS2.out, HL.out], by omega, HOW.out.alloc _, HG.out.alloc _⟩
          case measure => simp [intOf]; omega
      · have hB : (l.k == 2) = false := by rw [beq_eq_false_iff_ne]; exact h2
        have HNW : Hid (nowAt ls (k + 1) = t) := by unfold Hid; rw [HSU.out, if_neg h2, HT.out]
        clear h2
        by_cases h3 : inSec ls s k = true
        · have hE : (t.toList == s.toList) = true := by rw [← HNW.out]; exact h3
          have HS2 := Lib.hid (secTo_yes h3)
          clear h3
          go_wp2_with (at_builtin; refine wpList_append_own _ rfl _ _ 70 rfl w1.heap.size 3 i0 (.int .i64 0) 1 8 Try.underlying70 HI.out HZ0.out HZ1.out HZ2.out rfl (by decide) _ _ _ rfl ((HOW.out.alloc _).alloc _) ⟨wr.heap.size + 1, 0, none⟩ 1 1 [.int .i64 k] rfl rfl ?c1n ?c2n ?c3n ?c4n ?c5n ?_)
          case c1n =>
            intro j u hj
            match j, hj with
            | 0, hj => simp at hj; subst hj; simp [Addr.add]
          case c2n => intro u hu; simp at hu; subst hu; rfl
          case c3n => unfold maxLen; omega
          case c4n => omega
          case c5n => have := HG.out.size; simp; omega
          · intro v' w2 hown' hgrow _
            have HR : Hid (Grows w1 w2) := ((HG.out.alloc _).alloc _).grown ((HOW.out.alloc _).alloc _) hgrow
            have HO2 : Hid (w2.ownsRow w1.heap.size 3 1 v' (L ++ [k]).length (ints (L ++ [k]))) := by unfold Hid; rw [ints_snoc, List.length_append]; exact hown'
            clear hown' hgrow
            go_wp2
            go_roundw
            case rel => exact ⟨k + 1, t, L ++ [k], by omega, by go_num, rfl, HNW.out.symm, by unfold Hid; rw [HS2.out, HL.out], by simp; omega, HO2.out, HR.out⟩
            case measure => simp [intOf]; omega
        · have h3' : inSec ls s k = false := by simpa using h3
          have hE : (t.toList == s.toList) = false := by rw [← HNW.out]; exact h3'
          have HS2 := Lib.hid (secTo_no h3')
          clear h3 h3'
          go_wp2
          go_roundw
          case rel => exact ⟨k + 1, t, L, by omega, by go_num, rfl, HNW.out.symm, by unfold Hid; rw [HS2.out, HL.out], by omega, HOW.out.alloc _, HG.out.alloc _⟩
          case measure => simp [intOf]; omega
    · obtain rfl : k = n := by omega
      go_wp2
      go_ret
      obtain ⟨A', c', hv', hat', hcp'⟩ := ValsAt.of_own (base := w1.heap.size) (e := 3) (v := u5) (xs := ints L) (by rw [ints_length]; exact HOW.out)
      rw [← HN.out, HN.out, ← HL.out]
      exact ⟨A', c', by rw [← hv']; rfl, hat', HG1.out.trans HG.out, hcp'⟩
end Go.Proofs.Ytdedidcjbocicaa
