/- JoinStrings and its model, as contracts of the translated text. -/
import Derived.Test.YthpkabjgjgmnoaaStrs
import Derived.Test.YthpkabjgjgmnoaaHas
import Derived.WalkKit
import Derived.ProofKit
import Derived.Outline
import Derived.Lib.Hide
import Derived.Lib.Join
import Derived.WalkSpells
import Derived.Deep.QuietTactic
import Derived.BigQuiet
namespace Go.Proofs.Ythpkabjgjgmnoaa
open Go.RowKit
set_option linter.unusedVariables false
/-- The separator's byte. -/
def sepB (sep : ByteArray) : UInt8 := sep.data.toList.headD 0
theorem sepB_at (sep : ByteArray) (h : 0 < sep.size) : sep[0] = sepB sep := by
  obtain ⟨⟨l⟩⟩ := sep
  cases l with
  | nil => exact absurd h (by simp [ByteArray.size])
  | cons c t => rfl
theorem sepB_one (sep : ByteArray) (h : sep.size = 1) : sep = ⟨#[sepB sep]⟩ := by
  obtain ⟨⟨l⟩⟩ := sep
  match l, h with
  | [c], _ => rfl
/-- The strings joined. -/
def joinB (ss : List ByteArray) (sep : ByteArray) : ByteArray := ⟨(Lib.join (ss.map (·.data.toList)) sep.data.toList).toArray⟩
theorem joinB_nil (sep : ByteArray) : joinB [] sep = ByteArray.empty := rfl
theorem ba_ext {a b : ByteArray} (h : a.data.toList = b.data.toList) : a = b := by
  apply ByteArray.ext; exact Array.toList_inj.1 h
theorem join_snoc (xs : List (List UInt8)) (sep x : List UInt8) (h : xs ≠ []) : Lib.join (xs ++ [x]) sep = Lib.join xs sep ++ sep ++ x := by
  cases xs with
  | nil => exact absurd rfl h
  | cons y t =>
    rw [List.cons_append, Lib.join_cons, Lib.join_cons]
    simp [Lib.joinTail]
theorem joinB_step (ss : List ByteArray) (sep : ByteArray) (k : Nat) (h : k < ss.length) :
    joinB (ss.take (k + 1)) sep = if k = 0 then ss[k] else joinB (ss.take k) sep ++ sep ++ ss[k] := by
  apply ba_ext
  have e : (joinB (ss.take (k + 1)) sep).data.toList = Lib.join (((ss.take k).map (·.data.toList)) ++ [ss[k].data.toList]) sep.data.toList := by
    unfold joinB
    rw [List.take_succ_eq_append_getElem h, List.map_append]; simp
  rw [e]
  by_cases hk : k = 0
  · subst hk; rw [if_pos rfl]; simp [Lib.join_one]
  · rw [if_neg hk, join_snoc _ _ _ (fun e0 => by have := congrArg List.length e0; rw [List.length_map, List.length_take, List.length_nil] at this; omega)]
    simp [joinB]
theorem joinB_size (ss : List ByteArray) (sep : ByteArray) (h1 : sep.size = 1) (k : Nat) (hk : k ≤ ss.length) : (joinB (ss.take k) sep).size = bulkL (ss.take k) + (k - 1) := by
  induction k with
  | zero => simp [joinB_nil, bulkL]
  | succ k ih =>
    rw [joinB_step ss sep k (by omega), bulkL_take ss k (by omega)]
    have := ih (by omega)
    by_cases h0 : k = 0
    · subst h0; rw [if_pos rfl]; simp [bulkL]
    · rw [if_neg h0, ByteArray.size_append, ByteArray.size_append]; omega
/-- None of the strings holds the separator. -/
def noSep (ss : List ByteArray) (sep : ByteArray) : Prop := ∀ x ∈ ss, sepB sep ∉ x.data.toList
theorem noSep_succ (ss : List ByteArray) (sep : ByteArray) (k : Nat) (h : k < ss.length) (hn : noSep (ss.take k) sep) (hx : sepB sep ∉ ss[k].data.toList) : noSep (ss.take (k + 1)) sep := by
  intro x hm
  rw [List.take_succ_eq_append_getElem h, List.mem_append, List.mem_singleton] at hm
  rcases hm with hm | rfl
  · exact hn x hm
  · exact hx
theorem noSep_not (ss : List ByteArray) (sep : ByteArray) (k : Nat) (h : k < ss.length) (hx : sepB sep ∈ ss[k].data.toList) : ¬ noSep ss sep := fun hn => hn _ (List.getElem_mem h) hx
/-- Whether strings can be joined. -/
def canJoin (ss : List ByteArray) (sep : ByteArray) : Prop := sep.size = 1 ∧ ss ≠ [] ∧ noSep ss sep ∧ bulkL ss + (ss.length - 1) ≤ 4000
/-- What the call answers. -/
def Joined (ss : List ByteArray) (sep : ByteArray) (e : Ending) : Prop :=
  (canJoin ss sep ∧ e = .returned (.tuple #[.string (joinB ss sep), .bool true])) ∨ (¬ canJoin ss sep ∧ e = .returned (.tuple #[.string ByteArray.empty, .bool false]))
theorem quiet_eq {P : Program} {f : FuncId} {args : Array Value} {w : World} {n : Nat} {v : Value}
    (h : Calls P f args (w.drewN n) fun e w' => e = .returned v ∧ w.drewN n = w') : Calls P f args (w.drewN n) fun e w'' => e = .returned v ∧ ∃ m, w'' = w.drewN m :=
  h.mono fun _ _ ⟨he, hm⟩ => ⟨he, n, hm.symm⟩
def Drew (w w' : World) : Prop := ∃ n, w' = w.drewN n
theorem Drew.refl (w : World) : Drew w w := ⟨0, rfl⟩
theorem Drew.more {w w' : World} (h : Drew w w') (n : Nat) : Drew w (w'.drewN n) := by
  obtain ⟨m, rfl⟩ := h; exact ⟨m + n, by rw [World.drewN_drewN]⟩
theorem Drew.cell {w w' : World} (h : Drew w w') (p : Addr) : w'.cell? p = w.cell? p := by obtain ⟨m, rfl⟩ := h; rfl
theorem Drew.below {w w' : World} (h : Drew w w') (B : Nat) : Below B w w' := by obtain ⟨m, rfl⟩ := h; exact below_drewN (Below.refl _ _) m
def SpecJoined (ss : List ByteArray) (sep : ByteArray) (w : World) (e : Ending) (w' : World) : Prop := Joined ss sep e ∧ Drew w w'
set_option maxHeartbeats 1000000 in
theorem specJoin (ss : List ByteArray) (sep : ByteArray) (p : Option Addr) (cap B : Nat) (w : World) (hn : ss.length ≤ maxLen) (hz : ∀ s ∈ ss, s.size ≤ 1048576) (hsz : sep.size ≤ maxLen) (hS : StrsAt w B p ss) :
    Calls Try.prog 13 #[.slice p ss.length cap, .string sep] w (SpecJoined ss sep w) := by
  unfold maxLen at hn hsz
  have S := Lib.hid hS
  have Z := Lib.hid hz
  clear hS hz
  by_cases h1 : sep.size = 1
  · by_cases h0 : ss.length = 0
    · have NO : Hid (¬ canJoin ss sep) := Lib.hid (fun h => h.2.1 (List.eq_nil_of_length_eq_zero h0))
      go_enter Try.func13, Try.ntmps13
      go_wp2
      go_ret2
      exact ⟨.inr ⟨NO.out, rfl⟩, Drew.refl _⟩
    · have hn0 : ((ss.length : Int) == 0) = false := by rw [beq_eq_false_iff_ne]; omega
      have hs0 : sep[0] = sepB sep := sepB_at sep (by omega)
      have JZ := Lib.hid (joinB_size ss sep h1)
      have H1 := Lib.hid h1
      go_enter Try.func13, Try.ntmps13
      go_wp2
      go_loopw [6, 7] (fun o i wr => ∃ k : Nat, k ≤ ss.length ∧ i = .int .i64 k ∧ o = .string (joinB (ss.take k) sep) ∧ (joinB (ss.take k) sep).size ≤ 4000 ∧ noSep (ss.take k) sep ∧ Drew w wr) (fun _ i _ => ss.length - (intOf i).toNat)
      case atStart => exact ⟨0, Nat.zero_le _, rfl, rfl, by simp [joinB_nil], by intro x hx; simp at hx, Drew.refl _⟩
      case round =>
        obtain ⟨k, hk, rfl, rfl, ho, hno, hw⟩ := hrel
        have W := Lib.hid hw
        have NS := Lib.hid hno
        clear hw hno
        by_cases hlt : k < ss.length
        · obtain ⟨b, off, rfl, _, hc0⟩ := S.out.at_ hlt
          have hc : wr.cell? ⟨b, off + k, none⟩ = some (.string ss[k]) := by rw [W.out.cell]; exact hc0
          have hxz := Z.out ss[k] (List.getElem_mem _)
          have hxm : ss[k].size ≤ maxLen := by unfold maxLen; omega
          have i0 : (0 : Int) ≤ (k : Int) := by omega
          have i1 : (k : Int) < (ss.length : Int) := by omega
          have s1 : (0 : Int) < (sep.size : Int) := by omega
          clear hc0
          by_cases hst : sepB sep ∈ ss[k].data.toList
          · have NO : Hid (¬ canJoin ss sep) := Lib.hid (fun h => noSep_not ss sep k hlt hst h.2.2.1)
            have C := Lib.hid hst
            clear hst
            go_wp2
            go_quiet ((go_at_call 32; exact quiet_eq (l1Stands_yes _ _ _ hxm C.out)))
            go_wp2
            go_ret2
            exact ⟨.inr ⟨NO.out, rfl⟩, W.out.more _⟩
          · have HN := Lib.hid (noSep_succ ss sep k hlt NS.out hst)
            have C := Lib.hid hst
            have ST := Lib.hid (joinB_step ss sep k hlt)
            have SZ : Hid ((joinB (ss.take (k + 1)) sep).size = bulkL (ss.take (k + 1)) + k) := Lib.hid (JZ.out (k + 1) (by omega))
            have BM := Lib.hid (bulkL_mono ss (k + 1))
            have hE : joinB (ss.take 0) sep = ByteArray.empty := rfl
            clear hst
            obtain ⟨o, hO⟩ : ∃ o, o = joinB (ss.take k) sep := ⟨_, rfl⟩
            obtain ⟨o2, hO2⟩ : ∃ o2, o2 = joinB (ss.take (k + 1)) sep := ⟨_, rfl⟩
            have NOBIG : Hid (4000 < o2.size → ¬ canJoin ss sep) := Lib.hid (fun hbig h => by
              have h1 := SZ.out; have h2 := BM.out; have h3 := h.2.2.2
              rw [← hO2] at h1; omega)
            have ST2 : Hid ((k = 0 → o ++ ss[k] = o2) ∧ (0 < k → o ++ sep ++ ss[k] = o2)) := by
              refine Lib.hid ⟨fun hk0 => ?_, fun hk0 => ?_⟩
              · rw [hO2, ST.out, if_pos hk0, hO]; subst hk0; rw [hE]; simp
              · rw [hO2, ST.out, if_neg (by omega), hO]
            have O2 := Lib.hid hO2
            rw [← hO] at ho ⊢
            clear hE ST SZ BM hO hO2
            obtain ⟨x, hX⟩ : ∃ x, x = ss[k] := ⟨_, rfl⟩
            rw [← hX] at hc hxz hxm C ST2
            clear hX
            by_cases hk0 : k = 0
            · have e2 := ST2.out.1 hk0
              have t0 : decide ((0 : Int) < (k : Int)) = false := decide_eq_false (by omega)
              have t1 : ¬ (0 : Int) < (k : Int) := by omega
              have z2 : o2.size = o.size + x.size := by rw [← e2, ByteArray.size_append]
              have z3 : o2.size ≤ 2000000 := by omega
              have add1 : ∀ W : World, (Op.stringOp .add o x).run Try.prog W = .ok (.string o2) W := fun W => by rw [run_string_add W _ _ (by omega) (by omega), e2]
              clear e2 z2 hk0
              by_cases hbig : 4000 < o2.size
              · go_wp2
                go_quiet ((go_at_call 32; exact quiet_eq (l1Stands_no _ _ _ hxm C.out)))
                go_wp2
                go_ret2
                exact ⟨.inr ⟨NOBIG.out hbig, rfl⟩, W.out.more _⟩
              · go_wp2
                go_quiet ((go_at_call 32; exact quiet_eq (l1Stands_no _ _ _ hxm C.out)))
                go_wp2
                go_roundw
                case rel => exact ⟨k + 1, by omega, by go_num, by rw [O2.out], by rw [← O2.out]; omega, HN.out, W.out.more _⟩
                case measure => simp [intOf]; omega
            · have e2 := ST2.out.2 (by omega)
              have t1 : (0 : Int) < (k : Int) := by omega
              have z2 : o2.size = o.size + sep.size + x.size := by rw [← e2, ByteArray.size_append, ByteArray.size_append]
              have z3 : o2.size ≤ 2000000 := by omega
              have z4 : (o ++ sep).size = o.size + sep.size := ByteArray.size_append
              have add0 : ∀ W : World, (Op.stringOp .add o sep).run Try.prog W = .ok (.string (o ++ sep)) W := fun W => run_string_add W _ _ (by omega) (by omega)
              have add1 : ∀ W : World, (Op.stringOp .add (o ++ sep) x).run Try.prog W = .ok (.string o2) W := fun W => by rw [run_string_add W _ _ (by omega) (by omega), e2]
              clear e2 z2 hk0 z4
              by_cases hbig : 4000 < o2.size
              · go_wp2
                go_quiet ((go_at_call 32; exact quiet_eq (l1Stands_no _ _ _ hxm C.out)))
                go_wp2
                go_ret2
                exact ⟨.inr ⟨NOBIG.out hbig, rfl⟩, W.out.more _⟩
              · go_wp2
                go_quiet ((go_at_call 32; exact quiet_eq (l1Stands_no _ _ _ hxm C.out)))
                go_wp2
                go_roundw
                case rel => exact ⟨k + 1, by omega, by go_num, by rw [O2.out], by rw [← O2.out]; omega, HN.out, W.out.more _⟩
                case measure => simp [intOf]; omega
        · have hk2 : k = ss.length := by omega
          have YES : Hid (canJoin ss sep) := by
            have h1 := NS.out
            have h2 := JZ.out k hk
            rw [hk2, List.take_length] at h1 h2
            rw [hk2, List.take_length] at ho
            exact Lib.hid ⟨H1.out, fun e => h0 (by rw [e]; rfl), h1, by omega⟩
          have E : Hid (joinB (ss.take k) sep = joinB ss sep) := by rw [hk2, List.take_length]; exact Lib.hid rfl
          clear hk2
          go_wp2
          go_ret2
          exact ⟨.inl ⟨YES.out, by rw [← E.out]; rfl⟩, W.out⟩
  · have hb : ((sep.size : Int) == 1) = false := by rw [beq_eq_false_iff_ne]; omega
    have NO : Hid (¬ canJoin ss sep) := Lib.hid (fun h => h1 h.1)
    clear h1
    go_enter Try.func13, Try.ntmps13
    go_wp2
    go_ret2
    exact ⟨.inr ⟨NO.out, rfl⟩, Drew.refl _⟩
def ImplJoined (ss : List ByteArray) (sep : ByteArray) (w : World) (e : Ending) (w' : World) : Prop := Joined ss sep e ∧ Below w.heap.size w w'
set_option maxHeartbeats 1000000 in
theorem implJoin (ss : List ByteArray) (sep : ByteArray) (p : Option Addr) (cap : Nat) (w : World) (hn : ss.length ≤ 1048576) (hcap : ss.length ≤ cap) (hz : ∀ s ∈ ss, s.size ≤ 1048576) (hS : StrsAt w w.heap.size p ss) :
    Calls Try.prog 12 #[.slice p ss.length cap, .string sep] w (ImplJoined ss sep w) := by
  have S := Lib.hid hS
  have Z := Lib.hid hz
  clear hS hz
  by_cases h0 : ss.length = 0
  · have NO : Hid (¬ canJoin ss sep) := Lib.hid (fun h => h.2.1 (List.eq_nil_of_length_eq_zero h0))
    go_enter Try.func12, Try.ntmps12
    go_wp2
    go_ret2
    exact ⟨.inr ⟨NO.out, rfl⟩, Below.refl _ _⟩
  · have hn0 : ((ss.length : Int) == 0) = false := by rw [beq_eq_false_iff_ne]; omega
    by_cases h1 : sep.size = 1
    · have SE := Lib.hid (sepB_one sep h1)
      have JZ := Lib.hid (joinB_size ss sep h1 ss.length (Nat.le_refl _))
      have H1 := Lib.hid h1
      go_enter Try.func12, Try.ntmps12
      go_wp2
      go_loop [6, 22] (fun z i => ∃ k : Nat, k ≤ ss.length ∧ i = .int .i64 k ∧ z = .int .i64 ((ss.length : Int) - 1 + (bulkL (ss.take k) : Int)) ∧ (0 < k → ss.length - 1 + bulkL (ss.take k) ≤ 4000) ∧ noSep (ss.take k) sep) (fun _ i => ss.length - (intOf i).toNat)
      case atStart => exact ⟨0, Nat.zero_le _, rfl, by simp [bulkL], by omega, by intro x hx; simp at hx⟩
      case round =>
        obtain ⟨k, hk, rfl, rfl, hle, hno⟩ := hrel
        have NS := Lib.hid hno
        have hle2 : bulkL (ss.take k) ≤ 4000 := by
          by_cases hk0 : 0 < k
          · have := hle hk0; omega
          · have : k = 0 := by omega
            subst this; simp [bulkL]
        clear hno
        by_cases hlt : k < ss.length
        · obtain ⟨b, off, rfl, _, hc⟩ := S.out.at_ hlt
          have hxz := Z.out ss[k] (List.getElem_mem _)
          have BT := Lib.hid (bulkL_take ss k hlt)
          have BM := Lib.hid (bulkL_mono ss (k + 1))
          clear hle
          obtain ⟨c, hC⟩ : ∃ c, c = bulkL (ss.take k) := ⟨_, rfl⟩
          obtain ⟨c2, hC2⟩ : ∃ c2, c2 = bulkL (ss.take (k + 1)) := ⟨_, rfl⟩
          have C2 := Lib.hid hC2
          rw [← hC] at hle2 BT ⊢
          rw [← hC2] at BT BM
          have BT2 := BT.out
          have BM2 := BM.out
          clear hC hC2 BT BM
          by_cases hst : sepB sep ∈ ss[k].data.toList
          · have NO : Hid (¬ canJoin ss sep) := Lib.hid (fun h => noSep_not ss sep k hlt hst h.2.2.1)
            have CC : Hid (∀ W, Calls Try.prog 30 #[.string ss[k], .string sep] W fun e w' => e = .returned (.bool true) ∧ W = w') := Lib.hid (fun W => by
              have := contains_yes ss[k] (sepB sep) W hst
              rw [← SE.out] at this; exact this)
            clear hst
            obtain ⟨x, hX⟩ : ∃ x, x = ss[k] := ⟨_, rfl⟩
            rw [← hX] at hc hxz CC BT2
            clear hX
            have BT3 : (c2 : Int) = c + x.size := by omega
            clear BT2
            by_cases hbig : 4000 < ss.length - 1 + c2
            · go_wp2_with (go_at_call 30; refine (CC.out _).mono ?_; rintro e w' ⟨rfl, rfl⟩)
              go_ret2
              exact ⟨.inr ⟨NO.out, rfl⟩, Below.refl _ _⟩
            · go_wp2_with (go_at_call 30; refine (CC.out _).mono ?_; rintro e w' ⟨rfl, rfl⟩)
              go_ret2
              exact ⟨.inr ⟨NO.out, rfl⟩, Below.refl _ _⟩
          · have HN := Lib.hid (noSep_succ ss sep k hlt NS.out hst)
            have CC : Hid (∀ W, Calls Try.prog 30 #[.string ss[k], .string sep] W fun e w' => e = .returned (.bool false) ∧ W = w') := Lib.hid (fun W => by
              have := contains_no ss[k] (sepB sep) W hst
              rw [← SE.out] at this; exact this)
            clear hst
            obtain ⟨x, hX⟩ : ∃ x, x = ss[k] := ⟨_, rfl⟩
            rw [← hX] at hc hxz CC BT2
            clear hX
            by_cases hbig : 4000 < ss.length - 1 + c2
            · have NO : Hid (¬ canJoin ss sep) := Lib.hid (fun h => by have := h.2.2.2; omega)
              go_wp2_with (go_at_call 30; refine (CC.out _).mono ?_; rintro e w' ⟨rfl, rfl⟩)
              go_ret2
              exact ⟨.inr ⟨NO.out, rfl⟩, Below.refl _ _⟩
            · go_wp2_with (go_at_call 30; refine (CC.out _).mono ?_; rintro e w' ⟨rfl, rfl⟩)
              go_round
              case rel => exact ⟨k + 1, by omega, by go_num, by rw [← C2.out, BT2]; go_num, fun _ => by rw [← C2.out]; omega, HN.out⟩
              case measure => simp [intOf]; omega
        · have hk2 : k = ss.length := by omega
          have YES : Hid (canJoin ss sep) := by
            have h1 := NS.out
            have h2 := hle (by omega)
            rw [hk2, List.take_length] at h1 h2
            exact Lib.hid ⟨H1.out, fun e => h0 (by rw [e]; rfl), h1, by omega⟩
          obtain ⟨b, off, rfl, hB, _⟩ := S.out.at_ (show 0 < ss.length by omega)
          have CELLS : ∀ (j : Nat) x, ss[j]? = some x → w.cell? ⟨b, off + j, none⟩ = some (.string x) := fun j x hx => by
            obtain ⟨hj, rfl⟩ := List.getElem?_eq_some_iff.1 hx
            obtain ⟨b', off', e, _, hc⟩ := S.out.at_ hj
            cases e; exact hc
          have LEN : (Lib.join (ss.map (·.data.toList)) sep.data.toList).length ≤ 140737488355328 := by
            have h1 := JZ.out
            have h2 := YES.out.2.2.2
            rw [List.take_length] at h1
            have : (joinB ss sep).size = (Lib.join (ss.map (·.data.toList)) sep.data.toList).length := by unfold joinB; show List.length _ = _; simp
            omega
          have CJ := Lib.hid (Try.strings_Join b off cap ss sep w CELLS hB (by omega) hcap LEN)
          clear CELLS LEN hk2
          go_wp2_with (go_at_call 31; refine CJ.out.mono ?_; rintro e w' ⟨rfl, hb⟩)
          go_ret2
          exact ⟨.inl ⟨YES.out, rfl⟩, hb⟩
    · have hb : ((sep.size : Int) == 1) = false := by rw [beq_eq_false_iff_ne]; omega
      have NO : Hid (¬ canJoin ss sep) := Lib.hid (fun h => h1 h.1)
      clear h1
      go_enter Try.func12, Try.ntmps12
      go_wp2
      go_ret2
      exact ⟨.inr ⟨NO.out, rfl⟩, Below.refl _ _⟩
/-- Both answers in one form. -/
noncomputable def jx (ss : List ByteArray) (sep : ByteArray) : ByteArray := open Classical in if canJoin ss sep then joinB ss sep else ByteArray.empty
noncomputable def jb (ss : List ByteArray) (sep : ByteArray) : Bool := open Classical in if canJoin ss sep then true else false
theorem Joined.form {ss : List ByteArray} {sep : ByteArray} {e : Ending} (h : Joined ss sep e) : e = .returned (.tuple #[.string (jx ss sep), .bool (jb ss sep)]) := by
  unfold jx jb
  rcases h with ⟨hc, rfl⟩ | ⟨hc, rfl⟩
  · rw [if_pos hc, if_pos hc]
  · rw [if_neg hc, if_neg hc]
theorem size_le_bulk (ss : List ByteArray) : ∀ s ∈ ss, s.size ≤ bulkL ss := by
  unfold bulkL
  induction ss with
  | nil => intro s hs; cases hs
  | cons x t ih =>
    intro s hs
    rw [List.map_cons, List.sum_cons]
    rcases List.mem_cons.1 hs with rfl | hs
    · omega
    · have := ih s hs; omega
end Go.Proofs.Ythpkabjgjgmnoaa
