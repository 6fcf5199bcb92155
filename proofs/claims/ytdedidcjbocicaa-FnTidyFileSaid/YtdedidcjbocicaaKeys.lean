/-
  The keys of a section: KeysOf of the program and of the specification. Conditions: at most 1048576 bytes in all.
-/
import Derived.Test.YtdedidcjbocicaaOnce
import Derived.Test.YtdedidcjbocicaaWhere
namespace Go.Proofs.Ytdedidcjbocicaa
open Go.RowKit

/-- the keys of a section among the first k lines -/
def keysTo (ls : List Ln) (s : ByteArray) : Nat → List ByteArray
  | 0 => []
  | k + 1 => if (ls[k]!.k == 3 && inSec ls s k) = true then addT (keysTo ls s k) ls[k]!.na else keysTo ls s k
theorem keysTo_yes {ls : List Ln} {s : ByteArray} {k : Nat} (h : (ls[k]!.k == 3 && inSec ls s k) = true) : keysTo ls s (k + 1) = addT (keysTo ls s k) ls[k]!.na := by
  show (if _ then _ else _) = _
  rw [if_pos h]
theorem keysTo_no {ls : List Ln} {s : ByteArray} {k : Nat} (h : (ls[k]!.k == 3 && inSec ls s k) = false) : keysTo ls s (k + 1) = keysTo ls s k := by
  show (if _ then _ else _) = _
  rw [if_neg (by rw [h]; simp)]
theorem keysTo_le (ls : List Ln) (s : ByteArray) (k : Nat) : (keysTo ls s k).length ≤ k := by
  induction k with
  | zero => exact Nat.le_refl _
  | succ k ih =>
    by_cases h : (ls[k]!.k == 3 && inSec ls s k) = true
    · rw [keysTo_yes h]
      have := addT_le (keysTo ls s k) ls[k]!.na
      omega
    · rw [keysTo_no (by simpa using h)]; omega
/-- the keys of a section by its lines -/
def keysBy (ls : List Ln) (L : List Nat) : List ByteArray := L.foldl (fun acc i => if (ls[i]!.k == 3) = true then addT acc ls[i]!.na else acc) []
theorem keysBy_snoc (ls : List Ln) (L : List Nat) (i : Nat) : keysBy ls (L ++ [i]) = if (ls[i]!.k == 3) = true then addT (keysBy ls L) ls[i]!.na else keysBy ls L := by
  unfold keysBy
  rw [List.foldl_append]
  rfl
theorem keysBy_le (ls : List Ln) (L : List Nat) : (keysBy ls L).length ≤ L.length := by
  rw [← List.reverse_reverse L]
  generalize L.reverse = M
  induction M with
  | nil => exact Nat.le_refl _
  | cons i M ih =>
    rw [List.reverse_cons, keysBy_snoc, List.length_append, List.length_singleton]
    split
    · have := addT_le (keysBy ls M.reverse) ls[i]!.na
      omega
    · omega
theorem keysBy_eq (ls : List Ln) (s : ByteArray) (k : Nat) : keysBy ls (secTo ls s k) = keysTo ls s k := by
  induction k with
  | zero => rfl
  | succ k ih =>
    by_cases h : inSec ls s k = true
    · rw [secTo_yes h, keysBy_snoc, ih]
      by_cases h3 : (ls[k]!.k == 3) = true
      · rw [if_pos h3, keysTo_yes (by rw [h3, h]; rfl)]
      · rw [if_neg h3, keysTo_no (by rw [Bool.eq_false_iff.2 h3, Bool.false_and])]
    · have h' : inSec ls s k = false := by simpa using h
      rw [secTo_no h', ih, keysTo_no (by rw [h', Bool.and_false])]
/-- the keys of a section of a file, none if it is not valid -/
def keysOf' (ls : List Ln) (s : ByteArray) : List ByteArray := if vfile ls = true then keysTo ls s ls.length else []
theorem keysOf_by (ls : List Ln) (s : ByteArray) : keysBy ls (secOf ls s) = keysOf' ls s := by
  unfold secOf keysOf'
  split
  · exact keysBy_eq _ _ _
  · rfl

/-- a call's end: it returns a list of texts in rows of the call's own -/
def StrsRet (xs : List ByteArray) (w : World) (e : Ending) (w' : World) : Prop := ∃ v, e = .returned v ∧ OwnS w' w.heap.size v xs ∧ Grows w w'
theorem OwnS.nil (w : World) (base : Nat) : OwnS w base (.slice none 0 0) [] := World.ownsRow_nil _ _ _ _
theorem OwnS.empty (w : World) (base : Nat) (hb : base ≤ w.heap.size) : OwnS (w.alloc (.cells #[] 9)) base (.slice (some ⟨w.heap.size, 0, none⟩) 0 0) [] :=
  World.ownsRow_lit w #[] 0 hb (Nat.zero_le _) rfl
theorem OwnS.less {w : World} {base base' : Nat} {v : Value} {xs : List ByteArray} (h : OwnS w base v xs) (hb : base' ≤ base) : OwnS w base' v xs := by
  refine ⟨h.1, ?_⟩
  rcases h.2 with h2 | ⟨g, cap, cur, hv, hg, hr⟩
  · exact .inl h2
  · exact .inr ⟨g, cap, cur, hv, by omega, hr⟩

set_option maxRecDepth 100000 in
set_option maxHeartbeats 2000000 in
theorem implKeys_any (A : Option Addr) (c : Nat) (ls : List Ln) (s : ByteArray) (w : World) (hf : AllFit ls) (hA : LnsAt w A ls) :
    Calls Try.prog 25 #[.agg #[.slice A ls.length c], .string s] w (StrsRet (keysOf' ls s) w) := by
  have HF := Lib.hid (fun w1 (g : Grows w w1) => linesIn_all A c ls s w1 hf (hA.keep g))
  have HA := Lib.hid hA
  have hn : ls.length ≤ 1048576 := hf.1
  have HE := Lib.hid (keysOf_by ls s)
  have HLT : Hid (∀ i (h : i < (secOf ls s).length), (secOf ls s)[i] < ls.length) := fun i h => secOf_lt (List.getElem_mem h)
  have hL := secOf_le ls s
  clear hA hf
  obtain ⟨L, hLL⟩ : ∃ L, secOf ls s = L := ⟨_, rfl⟩
  rw [hLL] at HF HE HLT hL
  clear hLL
  obtain ⟨n, hnn⟩ : ∃ n, ls.length = n := ⟨_, rfl⟩
  rw [hnn] at hn HF HLT hL
  rw [hnn]
  have HN := Lib.hid hnn
  clear hnn
  go_enter Try.func25, Try.ntmps25
  go_wp2_with fail
  refine (HF.out _ ((Grows.refl _).alloc _)).mono ?_
  rintro e w1 ⟨A1, c1, rfl, hv1, g1, _⟩
  have HG0 : Hid (Grows (w.alloc (fbox A n c)) w1) := g1
  have HV1 := Lib.hid hv1
  have HG1 : Hid (Grows w w1) := ((Grows.refl _).alloc _).trans g1
  clear g1 hv1
  rw [ints_length]
  obtain ⟨p, hp⟩ : ∃ p, L.length = p := ⟨_, rfl⟩
  rw [hp]
  rw [hp] at hL
  have HP := Lib.hid hp
  clear hp
  go_wp2_with fail
  go_loopw [5, 12] (fun v i wr => ∃ (j : Nat) (K : List ByteArray), j ≤ p ∧ i = .int .i64 j ∧ Hid (K = keysBy ls (L.take j)) ∧ K.length ≤ j ∧ Hid (OwnS wr w1.heap.size v K) ∧ Hid (Grows w1 wr)) (fun _ i _ => p - (intOf i).toNat)
  case atStart => exact ⟨0, [], Nat.zero_le _, rfl, rfl, Nat.zero_le _, OwnS.nil _ _, Grows.refl _⟩
  case round =>
    obtain ⟨j, K, hj, rfl, HK, hKj, HO, HG⟩ := hrel
    have hb0 : wr.cell? ⟨w.heap.size, 0, none⟩ = some (.slice A n c) := ((HG0.out.trans HG.out).cell (p := ⟨w.heap.size, 0, none⟩) (by simp)).trans (by simp [fbox])
    by_cases hlt : j < p
    · have hjL : j < L.length := by rw [HP.out]; exact hlt
      have hx := HLT.out j hjL
      have hTS : L.take (j + 1) = L.take j ++ [L[j]] := List.take_succ_eq_append_getElem hjL
      obtain ⟨b1, o1, rfl, hb1, hc1⟩ := HV1.out (by rw [ints_length]; omega)
      have d0 := hc1 j (by rw [ints_length]; exact hjL)
      have hix : (ints L)[j]'(by rw [ints_length]; exact hjL) = Value.int .i64 (L[j] : Int) := by simp [ints]
      rw [hix] at d0
      obtain ⟨x, hxx⟩ : ∃ x, L[j] = x := ⟨_, rfl⟩
      rw [hxx] at hx hTS d0
      have d1 : wr.cell? ⟨b1, o1 + j, none⟩ = some (.int .i64 x) := (HG.out.cell (p := ⟨b1, o1 + j, none⟩) hb1).trans d0
      obtain ⟨b, o, rfl, hb, hc⟩ := HA.out (by rw [HN.out]; omega)
      have hk2 : x < ls.length := by rw [HN.out]; exact hx
      have hsu := get_bang hk2
      obtain ⟨l, hl⟩ : ∃ l, ls[x] = l := ⟨_, rfl⟩
      have hat := (hc x hk2).keep hb (HG1.out.trans HG.out)
      rw [hl] at hat hsu
      obtain ⟨c0, c1', c2, c3, c4, c5⟩ := hat
      have HST : Hid (keysBy ls (L.take (j + 1)) = if (l.k == 3) = true then addT K l.na else K) := by
        unfold Hid
        rw [hTS, keysBy_snoc, hsu, ← HK.out]
      clear hl hc hc1 hix d0 hxx hTS hsu
      by_cases h3 : (l.k == 3) = true
      · have HS2 : Hid (keysBy ls (L.take (j + 1)) = addT K l.na) := by unfold Hid; rw [HST.out, if_pos h3]
        have HC := Lib.hid (fun v (h : OwnS wr w1.heap.size v K) => addOnce_any v w1.heap.size K l.na wr (by omega) HG.out.size h)
        have hle := addT_le K l.na
        go_wp2_with fail
        refine (HC.out _ HO.out).mono ?_
        rintro e w2 ⟨v', rfl, ho2, hb2⟩
        have HO2 := Lib.hid ho2
        have HG2 : Hid (Grows w1 w2) := Below.trans HG.out hb2
        clear ho2 hb2
        go_wp2
        go_roundw
        case rel => exact ⟨j + 1, addT K l.na, by omega, by go_num, HS2.out.symm, by omega, HO2.out, HG2.out⟩
        case measure => simp [intOf]; omega
      · have h3' : (l.k == 3) = false := by simpa using h3
        have HS2 : Hid (keysBy ls (L.take (j + 1)) = K) := by unfold Hid; rw [HST.out, if_neg h3]
        clear h3
        go_wp2
        go_roundw
        case rel => exact ⟨j + 1, K, by omega, by go_num, HS2.out.symm, by omega, HO.out, HG.out⟩
        case measure => simp [intOf]; omega
    · obtain rfl : j = p := by omega
      have HRR : Hid (K = keysOf' ls s) := by
        unfold Hid
        rw [← HE.out, HK.out, ← HP.out, List.take_length]
      go_wp2
      go_ret
      rw [← HRR.out]
      exact ⟨_, rfl, HO.out.less HG1.out.size, HG1.out.trans HG.out⟩

set_option maxRecDepth 100000 in
set_option maxHeartbeats 2000000 in
theorem specKeys_any (A : Option Addr) (c : Nat) (ls : List Ln) (s : ByteArray) (w : World) (hf : AllFit ls) (hA : LnsAt w A ls) :
    Calls Try.prog 39 #[.agg #[.slice A ls.length c], .string s] w (StrsRet (keysOf' ls s) w) := by
  have HF := Lib.hid (fun w1 (g : Grows w w1) => specFile_any A c ls w1 hf (hA.keep g))
  have HA := Lib.hid hA
  have hn : ls.length ≤ 1048576 := hf.1
  have HSA := Lib.hid (fun (i : Nat) (h : i < ls.length) w1 (g : Grows w w1) => sectionAt_any A c ls i w1 hf.1 h (hA.keep g))
  clear hA hf
  by_cases hv : vfile ls = true
  · rw [hv] at HF
    have HV : Hid (keysOf' ls s = keysTo ls s ls.length) := by unfold Hid keysOf'; rw [if_pos hv]
    clear hv
    obtain ⟨n, hnn⟩ : ∃ n, ls.length = n := ⟨_, rfl⟩
    rw [hnn] at hn HF HV HSA
    rw [hnn]
    have HN := Lib.hid hnn
    clear hnn
    go_enter Try.func39, Try.ntmps39
    go_wp2_with fail
    refine (HF.out _ ((Grows.refl _).alloc _)).mono ?_
    rintro e w1 ⟨rfl, g1⟩
    have HG0 : Hid (Grows (w.alloc (fbox A n c)) w1) := g1
    have HG1 : Hid (Grows w w1) := ((Grows.refl _).alloc _).trans g1
    clear g1
    go_wp2_with fail
    go_loopw [5, 6] (fun v i wr => ∃ (j : Nat) (K : List ByteArray), j ≤ n ∧ i = .int .i64 j ∧ Hid (K = keysTo ls s j) ∧ K.length ≤ j ∧ Hid (OwnS wr w1.heap.size v K) ∧ Hid (Grows w1 wr)) (fun _ i _ => n - (intOf i).toNat)
    case atStart => exact ⟨0, [], Nat.zero_le _, rfl, rfl, Nat.zero_le _, OwnS.empty _ _ (Nat.le_refl _), (Grows.refl _).alloc _⟩
    case round =>
      obtain ⟨j, K, hj, rfl, HK, hKj, HO, HG⟩ := hrel
      have hb0 : wr.cell? ⟨w.heap.size, 0, none⟩ = some (.slice A n c) := ((HG0.out.trans HG.out).cell (p := ⟨w.heap.size, 0, none⟩) (by simp)).trans (by simp [fbox])
      have hs0 : w.heap.size < wr.heap.size := Nat.lt_of_lt_of_le (by simp) (HG0.out.trans HG.out).size
      have HB0 := Lib.hid hb0
      by_cases hlt : j < n
      · obtain ⟨b, o, rfl, hb, hc⟩ := HA.out (by rw [HN.out]; omega)
        have hk2 : j < ls.length := by rw [HN.out]; exact hlt
        have hsu := get_bang hk2
        obtain ⟨l, hl⟩ : ∃ l, ls[j] = l := ⟨_, rfl⟩
        have hat := (hc j hk2).keep hb (HG1.out.trans HG.out)
        rw [hl] at hat hsu
        have HAT := Lib.hid hat
        obtain ⟨c0, c1, c2, c3, c4, c5⟩ := hat
        have hbr : b < wr.heap.size := Nat.lt_of_lt_of_le hb (HG1.out.trans HG.out).size
        have HBR := Lib.hid hbr
        have HC := Lib.hid (HSA.out j hlt wr (HG1.out.trans HG.out))
        have HST : Hid (keysTo ls s (j + 1) = if (l.k == 3 && inSec ls s j) = true then addT K l.na else K) := by
          unfold Hid
          rw [← hsu, HK.out]; rfl
        have HIN : Hid (inSec ls s j = ((nowAt ls (j + 1)).toList == s.toList)) := rfl
        obtain ⟨x, hx⟩ : ∃ x, nowAt ls (j + 1) = x := ⟨_, rfl⟩
        rw [hx] at HC HIN
        clear hl hc hx hsu hbr
        by_cases h3 : (l.k == 3) = true
        · by_cases hin : inSec ls s j = true
          · have HS2 : Hid (keysTo ls s (j + 1) = addT K l.na) := by unfold Hid; rw [HST.out, if_pos (by rw [h3, hin]; rfl)]
            have hE : (x.toList == s.toList) = true := by rw [← HIN.out]; exact hin
            have HD := Lib.hid (fun v w2 (hg : Grows wr w2) (h : OwnS wr w1.heap.size v K) => addText_any v w1.heap.size K l.na w2 (by omega) (Nat.le_trans HG.out.size hg.size) (h.keep hg))
            have hle := addT_le K l.na
            clear hin
            go_wp2_with fail
            refine (HC.out).mono ?_
            rintro e w2 ⟨rfl, g2⟩
            have hb2 := (g2.cell (p := ⟨w.heap.size, 0, none⟩) hs0).trans HB0.out
            obtain ⟨d0, d1, d2, d3, d4, d5⟩ := HAT.out.keep HBR.out g2
            have HG2 := Lib.hid g2
            clear g2
            go_wp2_with fail
            refine (HD.out _ _ HG2.out HO.out).mono ?_
            rintro e w3 ⟨v', rfl, ho2, hb3⟩
            have HO2 := Lib.hid ho2
            have HG3 : Hid (Grows w1 w3) := Below.trans (HG.out.trans HG2.out) hb3
            clear ho2 hb3
            go_wp2
            go_roundw
            case rel => exact ⟨j + 1, addT K l.na, by omega, by go_num, HS2.out.symm, by omega, HO2.out, HG3.out⟩
            case measure => simp [intOf]; omega
          · have HS2 : Hid (keysTo ls s (j + 1) = K) := by unfold Hid; rw [HST.out, if_neg (by rw [Bool.eq_false_iff.2 hin, Bool.and_false]; simp)]
            have hE : (x.toList == s.toList) = false := by rw [← HIN.out]; exact Bool.eq_false_iff.2 hin
            clear hin
            go_wp2_with fail
            refine (HC.out).mono ?_
            rintro e w2 ⟨rfl, g2⟩
            have HG2 := Lib.hid g2
            clear g2
            go_wp2_with fail
            go_roundw
            case rel => exact ⟨j + 1, K, by omega, by go_num, HS2.out.symm, by omega, HO.out.keep HG2.out, HG.out.trans HG2.out⟩
            case measure => simp [intOf]; omega
        · have h3' : (l.k == 3) = false := by simpa using h3
          have HS2 : Hid (keysTo ls s (j + 1) = K) := by unfold Hid; rw [HST.out, if_neg (by rw [h3', Bool.false_and]; simp)]
          clear h3
          go_wp2
          go_roundw
          case rel => exact ⟨j + 1, K, by omega, by go_num, HS2.out.symm, by omega, HO.out, HG.out⟩
          case measure => simp [intOf]; omega
      · obtain rfl : j = n := by omega
        go_wp2
        go_ret
        rw [HV.out, ← HK.out]
        exact ⟨_, rfl, HO.out.less HG1.out.size, HG1.out.trans HG.out⟩
  · have hv' : vfile ls = false := by simpa using hv
    rw [hv'] at HF
    have HV : Hid (keysOf' ls s = []) := by unfold Hid keysOf'; rw [if_neg hv]
    clear hv hv'
    go_enter Try.func39, Try.ntmps39
    go_wp2_with fail
    refine (HF.out _ ((Grows.refl _).alloc _)).mono ?_
    rintro e w1 ⟨rfl, g1⟩
    go_wp2
    go_ret
    rw [HV.out]
    exact ⟨_, rfl, OwnS.nil _ _, ((Grows.refl _).alloc _).trans g1⟩

theorem keysOf_le (ls : List Ln) (s : ByteArray) : (keysOf' ls s).length ≤ ls.length := by
  unfold keysOf'
  split
  · exact keysTo_le _ _ _
  · exact Nat.zero_le _
theorem Grows.mark {a b c : World} {row : Option Nat} (h : Grows a b) (hg : b.grownBy c row) (hr : ∀ k, row = some k → a.heap.size ≤ k) : Grows a c := Below.grown h hg h.size hr
theorem OwnS.far {a b : World} {base : Nat} {v : Value} {xs : List ByteArray} {row : Option Nat} (h : OwnS a base v xs) (hg : a.grownBy b row) (hne : ∀ k, v.ownBlock = some k → row ≠ some k) : OwnS b base v xs := by
  refine World.ownsRow.kept h hg ?_
  rcases hb : v.ownBlock with _ | k
  · exact .inl rfl
  · exact .inr (fun e => hne k hb e.symm)
end Go.Proofs.Ytdedidcjbocicaa
