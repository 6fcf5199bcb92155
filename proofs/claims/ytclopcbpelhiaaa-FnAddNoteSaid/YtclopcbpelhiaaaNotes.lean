/-
  The notes above a key: NotesOf of the program and of the specification. Conditions: at most 1048576 bytes in all.
-/
import Derived.Test.YtclopcbpelhiaaaGrow
namespace Go.Proofs.Ytclopcbpelhiaaa
open Go.RowKit

/-- how many notes stand right above line k -/
def noteFrom (ls : List Ln) : Nat → Nat
  | 0 => 0
  | k + 1 => if (ls[k]!.k == 1) = true then noteFrom ls k else k + 1
theorem noteFrom_yes {ls : List Ln} {k : Nat} (h : (ls[k]!.k == 1) = true) : noteFrom ls (k + 1) = noteFrom ls k := by
  show (if _ then _ else _) = _
  rw [if_pos h]
theorem noteFrom_no {ls : List Ln} {k : Nat} (h : (ls[k]!.k == 1) = false) : noteFrom ls (k + 1) = k + 1 := by
  show (if _ then _ else _) = _
  rw [if_neg (by rw [h]; simp)]
theorem noteFrom_le (ls : List Ln) (k : Nat) : noteFrom ls k ≤ k := by
  induction k with
  | zero => exact Nat.le_refl _
  | succ k ih =>
    unfold noteFrom
    split <;> omega
/-- the values of the lines from a to b -/
def valsFrom (ls : List Ln) (a b : Nat) : List ByteArray := (List.range (b - a)).map fun i => ls[a + i]!.va
theorem valsFrom_length (ls : List Ln) (a b : Nat) : (valsFrom ls a b).length = b - a := by simp [valsFrom]
theorem valsFrom_succ (ls : List Ln) (a b : Nat) (h : a ≤ b) : valsFrom ls a (b + 1) = valsFrom ls a b ++ [ls[b]!.va] := by
  unfold valsFrom
  rw [show b + 1 - a = (b - a) + 1 from by omega, List.range_succ, List.map_append, List.map_singleton, show a + (b - a) = b from by omega]
/-- the notes above a key of a file -/
def notesOf' (ls : List Ln) (s key : ByteArray) : List ByteArray := if whereOf ls s key < 0 then [] else valsFrom ls (noteFrom ls (whereOf ls s key).toNat) (whereOf ls s key).toNat
theorem notesOf_no {ls : List Ln} {s key : ByteArray} (h : whereOf ls s key < 0) : notesOf' ls s key = [] := by rw [notesOf', if_pos h]
theorem notesOf_yes {ls : List Ln} {s key : ByteArray} {k : Nat} (h : whereOf ls s key = k) : notesOf' ls s key = valsFrom ls (noteFrom ls k) k := by
  rw [notesOf', h, if_neg (by omega), Int.toNat_natCast]
theorem where_lt' (ls : List Ln) (s key : ByteArray) : whereOf ls s key < ls.length ∧ -1 ≤ whereOf ls s key := by
  unfold whereOf
  split
  · exact lastP_lt _ _ _ _
  · omega
theorem notesOf_le (ls : List Ln) (s key : ByteArray) : (notesOf' ls s key).length ≤ ls.length := by
  have h := where_lt' ls s key
  by_cases h0 : whereOf ls s key < 0
  · rw [notesOf_no h0]; exact Nat.zero_le _
  · obtain ⟨k, hk⟩ : ∃ k : Nat, whereOf ls s key = k := ⟨(whereOf ls s key).toNat, by omega⟩
    rw [notesOf_yes hk, valsFrom_length]
    omega

set_option maxRecDepth 100000 in
set_option maxHeartbeats 4000000 in
theorem implNotes_any (A : Option Addr) (c : Nat) (ls : List Ln) (s key : ByteArray) (w : World) (hf : AllFit ls) (hA : LnsAt w A ls) :
    Calls Try.prog 19 #[.agg #[.slice A ls.length c], .string s, .string key] w (StrsRet (notesOf' ls s key) w) := by
  have HF := Lib.hid (fun w1 (g : Grows w w1) => implWhere_any A c ls s key w1 hf (hA.keep g))
  have HA := Lib.hid hA
  have hn : ls.length ≤ 1048576 := hf.1
  have hw := where_lt' ls s key
  obtain ⟨i0, hi, hz0, hz1, hz2⟩ := info_parts infoStr
  have HI : Hid (Try.prog.info? 9 = some i0) := hi
  have HZ0 : Hid (i0.zero = some (.string ⟨#[]⟩)) := hz0
  have HZ1 : Hid (i0.size = 1) := hz1
  have HZ2 : Hid (i0.bytes = 16) := hz2
  clear hi hz0 hz1 hz2
  clear hA hf
  by_cases h0 : whereOf ls s key < 0
  · have HV := Lib.hid (notesOf_no h0)
    have hm : whereOf ls s key = -1 := by omega
    rw [hm] at HF
    clear hm hw h0
    go_enter Try.func19, Try.ntmps19
    go_wp2_with fail
    refine (HF.out _ ((Grows.refl _).alloc _)).mono ?_
    rintro e w1 ⟨rfl, g1⟩
    go_wp2
    refine wp_loop_rounds 1 ?_
    rw [rounds_succ]
    go_wp2
    refine wp_loop_rounds 1 ?_
    rw [rounds_succ]
    go_wp2
    go_ret
    rw [HV.out]
    exact ⟨_, rfl, OwnS.nil _ _, ((Grows.refl _).alloc _).trans g1⟩
  · obtain ⟨k, hk⟩ : ∃ k : Nat, whereOf ls s key = k := ⟨(whereOf ls s key).toNat, by omega⟩
    have hk2 : k < ls.length := by omega
    have HV := Lib.hid (notesOf_yes hk)
    rw [hk] at HF
    clear hw h0 hk
    obtain ⟨n, hnn⟩ : ∃ n, ls.length = n := ⟨_, rfl⟩
    rw [hnn] at hn hk2 HF
    rw [hnn]
    have HN := Lib.hid hnn
    clear hnn
    obtain ⟨b, o, rfl, hb, hc⟩ := HA.out (by rw [HN.out]; omega)
    have HCC := Lib.hid hc
    clear hc HA
    go_enter Try.func19, Try.ntmps19
    go_wp2_with fail
    refine (HF.out _ ((Grows.refl _).alloc _)).mono ?_
    rintro e w1 ⟨rfl, g1⟩
    have HG0 : Hid (Grows (w.alloc (fbox (some ⟨b, o, none⟩) n c)) w1) := g1
    have HG1 : Hid (Grows w w1) := ((Grows.refl _).alloc _).trans g1
    clear g1
    go_wp2_with fail
    go_loopw [8] (fun v wr => ∃ j : Nat, v = .int .i64 j ∧ j ≤ k ∧ Hid (noteFrom ls k = noteFrom ls j) ∧ Hid (Grows w1 wr)) (fun v _ => (intOf v).toNat)
    case atStart => exact ⟨k, rfl, Nat.le_refl _, rfl, Grows.refl _⟩
    case round =>
      obtain ⟨j, rfl, hj, HJ, HG⟩ := hrel
      have hb0 : wr.cell? ⟨w.heap.size, 0, none⟩ = some (.slice (some ⟨b, o, none⟩) n c) := ((HG0.out.trans HG.out).cell (p := ⟨w.heap.size, 0, none⟩) (by simp)).trans (by simp [fbox])
      rcases j with _ | i
      · have HJ2 : Hid (noteFrom ls k = 0) := HJ.out
        obtain ⟨wo, rfl⟩ : ∃ wo : World, wo = wr := ⟨_, rfl⟩
        go_wp2
        go_loopw [9, 10] (fun v z wr => ∃ (q : Nat) (K : List ByteArray), Hid (0 ≤ q) ∧ q ≤ k ∧ z = .int .i64 q ∧ Hid (K = valsFrom ls (noteFrom ls k) q) ∧ K.length ≤ q ∧ Hid (OwnS wr w1.heap.size v K) ∧ Hid (Grows w1 wr)) (fun _ z _ => k - (intOf z).toNat)
        case atStart => exact ⟨0, [], Nat.le_refl _, by omega, by first | rfl | go_num, by unfold Hid; rw [HJ2.out]; simp [valsFrom], Nat.zero_le _, OwnS.nil _ _, HG.out⟩
        case round =>
          obtain ⟨q, K, hq1, hq2, rfl, HK, hKq, HO, HG2⟩ := hrel
          have hb2 : wr.cell? ⟨w.heap.size, 0, none⟩ = some (.slice (some ⟨b, o, none⟩) n c) := ((HG0.out.trans HG2.out).cell (p := ⟨w.heap.size, 0, none⟩) (by simp)).trans (by simp [fbox])
          by_cases hlt : q < k
          · have hk3 : q < ls.length := by rw [HN.out]; omega
            have hsu := get_bang hk3
            obtain ⟨l, hl⟩ : ∃ l, ls[q] = l := ⟨_, rfl⟩
            have hat := (HCC.out q hk3).keep hb (HG1.out.trans HG2.out)
            rw [hl] at hat hsu
            obtain ⟨c0, c1, c2, c3, c4, c5⟩ := hat
            have HS2 : Hid (valsFrom ls (noteFrom ls k) (q + 1) = K ++ [l.va]) := by unfold Hid; rw [valsFrom_succ _ _ _ (by rw [HJ2.out]; exact hq1.out), ← HK.out, hsu]
            have HOW : Hid (wr.ownsRow w1.heap.size 9 1 _ K.length (strs' K)) := HO.out
            clear hl hsu
            go_wp2_with (at_builtin; refine wpList_append_own _ rfl _ _ 42 rfl w1.heap.size 9 i0 (.string ⟨#[]⟩) 1 16 Try.underlying42 HI.out HZ0.out HZ1.out HZ2.out rfl (by decide) _ _ _ rfl (HOW.out.alloc _) ⟨wr.heap.size, 0, none⟩ 1 1 [.string l.va] rfl rfl ?c1A ?c2A ?c3A ?c4A ?c5A ?_)
            case c1A =>
              intro j u hj
              match j, hj with
              | 0, hj => simp at hj; subst hj; simp [Addr.add]
            case c2A => intro u hu; simp at hu; subst hu; rfl
            case c3A => unfold maxLen; omega
            case c4A => omega
            case c5A => have := HG2.out.size; simp; omega
            · intro v' w2 hown' hgrow _
              have HG3 : Hid (Grows w1 w2) := (HG2.out.alloc _).grown (HOW.out.alloc _) hgrow
              have HO2 : Hid (OwnS w2 w1.heap.size v' (K ++ [l.va])) := by unfold Hid OwnS; rw [strs_snoc, List.length_append]; exact hown'
              clear hown' hgrow
              go_wp2
              go_roundw
              case rel => first | exact ⟨q + 1, K ++ [l.va], Nat.le_succ_of_le hq1.out, by omega, by go_num, HS2.out.symm, by simp; omega, HO2.out, HG3.out⟩ | ((repeat apply Exists.intro); exact ⟨⟨q + 1, K ++ [l.va], Nat.le_succ_of_le hq1.out, by omega, by go_num, HS2.out.symm, by simp; omega, HO2.out, HG3.out⟩, rfl⟩)
              case measure => simp [intOf]; omega
          · obtain rfl : q = k := by omega
            go_wp2
            go_ret
            rw [HV.out, ← HK.out]
            exact ⟨_, rfl, HO.out.less HG1.out.size, HG1.out.trans HG2.out⟩
      · have hi : i < n := by omega
        have hkx : i < ls.length := by rw [HN.out]; exact hi
        have hsu := get_bang hkx
        obtain ⟨l, hl⟩ : ∃ l, ls[i] = l := ⟨_, rfl⟩
        have hat := (HCC.out i hkx).keep hb (HG1.out.trans HG.out)
        rw [hl] at hat hsu
        obtain ⟨c0, c1, c2, c3, c4, c5⟩ := hat
        have ei : ((i + 1 : Nat) : Int) = (i : Int) + 1 := by omega
        rw [ei]
        by_cases h1 : (l.k == 1) = true
        · have HS2 : Hid (noteFrom ls k = noteFrom ls i) := by unfold Hid; rw [HJ.out, noteFrom_yes (by rw [hsu]; exact h1)]
          clear hl hsu ei
          go_wp2
          go_roundw
          case rel => exact ⟨i, by go_num, by omega, HS2.out, HG.out⟩
          case measure => simp [intOf] <;> omega
        · have h1' : (l.k == 1) = false := by simpa using h1
          have HJ2 : Hid (noteFrom ls k = i + 1) := by unfold Hid; rw [HJ.out, noteFrom_no (by rw [hsu]; exact h1')]
          clear hl hsu ei h1
          obtain ⟨wo, rfl⟩ : ∃ wo : World, wo = wr := ⟨_, rfl⟩
          go_wp2
          go_loopw [9, 10] (fun v z wr => ∃ (q : Nat) (K : List ByteArray), Hid (i + 1 ≤ q) ∧ q ≤ k ∧ z = .int .i64 q ∧ Hid (K = valsFrom ls (noteFrom ls k) q) ∧ K.length ≤ q ∧ Hid (OwnS wr w1.heap.size v K) ∧ Hid (Grows w1 wr)) (fun _ z _ => k - (intOf z).toNat)
          case atStart => exact ⟨i + 1, [], Nat.le_refl _, by omega, by first | rfl | go_num, by unfold Hid; rw [HJ2.out]; simp [valsFrom], Nat.zero_le _, OwnS.nil _ _, HG.out⟩
          case round =>
            obtain ⟨q, K, hq1, hq2, rfl, HK, hKq, HO, HG2⟩ := hrel
            have hb2 : wr.cell? ⟨w.heap.size, 0, none⟩ = some (.slice (some ⟨b, o, none⟩) n c) := ((HG0.out.trans HG2.out).cell (p := ⟨w.heap.size, 0, none⟩) (by simp)).trans (by simp [fbox])
            by_cases hlt : q < k
            · have hk3 : q < ls.length := by rw [HN.out]; omega
              have hsu := get_bang hk3
              obtain ⟨l, hl⟩ : ∃ l, ls[q] = l := ⟨_, rfl⟩
              have hat := (HCC.out q hk3).keep hb (HG1.out.trans HG2.out)
              rw [hl] at hat hsu
              obtain ⟨c0, c1, c2, c3, c4, c5⟩ := hat
              have HS2 : Hid (valsFrom ls (noteFrom ls k) (q + 1) = K ++ [l.va]) := by unfold Hid; rw [valsFrom_succ _ _ _ (by rw [HJ2.out]; exact hq1.out), ← HK.out, hsu]
              have HOW : Hid (wr.ownsRow w1.heap.size 9 1 _ K.length (strs' K)) := HO.out
              clear hl hsu
              go_wp2_with (at_builtin; refine wpList_append_own _ rfl _ _ 42 rfl w1.heap.size 9 i0 (.string ⟨#[]⟩) 1 16 Try.underlying42 HI.out HZ0.out HZ1.out HZ2.out rfl (by decide) _ _ _ rfl (HOW.out.alloc _) ⟨wr.heap.size, 0, none⟩ 1 1 [.string l.va] rfl rfl ?c1B ?c2B ?c3B ?c4B ?c5B ?_)
              case c1B =>
                intro j u hj
                match j, hj with
                | 0, hj => simp at hj; subst hj; simp [Addr.add]
              case c2B => intro u hu; simp at hu; subst hu; rfl
              case c3B => unfold maxLen; omega
              case c4B => omega
              case c5B => have := HG2.out.size; simp; omega
              · intro v' w2 hown' hgrow _
                have HG3 : Hid (Grows w1 w2) := (HG2.out.alloc _).grown (HOW.out.alloc _) hgrow
                have HO2 : Hid (OwnS w2 w1.heap.size v' (K ++ [l.va])) := by unfold Hid OwnS; rw [strs_snoc, List.length_append]; exact hown'
                clear hown' hgrow
                go_wp2
                go_roundw
                case rel => first | exact ⟨q + 1, K ++ [l.va], Nat.le_succ_of_le hq1.out, by omega, by go_num, HS2.out.symm, by simp; omega, HO2.out, HG3.out⟩ | ((repeat apply Exists.intro); exact ⟨⟨q + 1, K ++ [l.va], Nat.le_succ_of_le hq1.out, by omega, by go_num, HS2.out.symm, by simp; omega, HO2.out, HG3.out⟩, rfl⟩)
                case measure => simp [intOf]; omega
            · obtain rfl : q = k := by omega
              go_wp2
              go_ret
              rw [HV.out, ← HK.out]
              exact ⟨_, rfl, HO.out.less HG1.out.size, HG1.out.trans HG2.out⟩

end Go.Proofs.Ytclopcbpelhiaaa
