/- The sum of the numbers of the children, in the model. -/
import Derived.Test.YtfpckfameebdnaaCapP
import Derived.Test.YtfpckfameebdnaaRow
import Derived.Test.YtfpckfameebdnaaGoodS
import Derived.Deep.LoopGhost
namespace Go.Proofs.Ytfpckfameebdnaa
open Go.RowKit
set_option linter.unusedVariables false
theorem kidsF_goodK {ps ws : List Int} (g : Good ps ws) (x : Nat) : kidsF ps x ps.length = kidsT ps x := by
  rw [kidsT_eq]
  unfold kidsF
  refine nodesW_congr fun y hy => ?_
  rw [Bool.eq_iff_iff, Bool.and_eq_true, decide_eq_true_eq, beq_iff_eq]
  constructor
  · exact fun h => h.2
  · intro h
    have := g.kid_gt hy h
    exact ⟨by omega, h⟩
set_option maxRecDepth 100000 in
set_option maxHeartbeats 4000000 in
theorem kids4S (ps ws L : List Int) (v u : Value) (x : Nat) (w : World) (gd : Good ps ws) (hx : x < ps.length) (hL : L.length = ps.length) (hb : ∀ y, y < ps.length → (L.getD y 0).natAbs ≤ 1000000000) (h : TreeV w w.heap.size v ps ws) (hu : IntsV w w.heap.size u L) :
    Calls Try.prog 77 #[v, u, .int .i64 x] w (Gives (.int .i64 (kidT ps L x)) w) := by
  have hn24 := gd.n24
  have KI := Lib.hid (fun w' (hb : Below w.heap.size w w') => kidsS ps ws v x w' (by omega) (by omega) (h.boxed hb))
  rw [kidsF_goodK gd] at KI
  have KN : Hid (∀ z ∈ kidsT ps (x : Int), ∃ y : Nat, z = (y : Int) ∧ y < ps.length) := Lib.hid (fun z hz => by
    rw [kidsT_eq] at hz
    obtain ⟨y, h1, h2, _⟩ := nodesW_mem hz
    exact ⟨y, h1, h2⟩)
  have KL : (kidsT ps (x : Int)).length ≤ 24 := by rw [kidsT_eq]; exact Nat.le_trans (nodesW_len _ _) hn24
  have KBD : Hid (∀ k, k ≤ (kidsT ps (x : Int)).length → (kidF (fun y => L.getD y 0) ((kidsT ps (x : Int)).take k)).natAbs ≤ 24000000000) := Lib.hid (fun k hk => by
    have h1 := kidF_bd (f := fun y => L.getD y 0) (L := kidsT ps (x : Int)) (B := 1000000000) (fun z hz => by
      obtain ⟨y, rfl, hy⟩ := KN.out z hz
      rw [Int.toNat_natCast]
      exact hb y hy) k hk
    have h2 : k * 1000000000 ≤ 24 * 1000000000 := Nat.mul_le_mul_right _ (by omega)
    omega)
  have KTK := Lib.hid (fun k (hk : k < (kidsT ps (x : Int)).length) => kidF_take (fun y => L.getD y 0) hk)
  have KALL : Hid (∀ k, (kidsT ps (x : Int)).length ≤ k → kidF (fun y => L.getD y 0) ((kidsT ps (x : Int)).take k) = kidT ps L x) := Lib.hid (fun k hk => by rw [kidF_all _ hk, kid_model])
  have KZ : Hid (kidF (fun y => L.getD y 0) ((kidsT ps (x : Int)).take 0) = 0) := Lib.hid rfl
  have FB := Lib.hid hb
  obtain ⟨p1, c1, p2, c2, rfl⟩ := h.shape
  obtain ⟨q, d, rfl, _, _, _, j1⟩ := hu
  have Q1 := Lib.hid j1
  clear h j1 gd hb
  have B1 := (Below.refl w.heap.size w).alloc (Nat.le_refl _) (.cells #[.slice p1 ps.length c1, .slice p2 ws.length c2] 28)
  have T1 := Lib.hid (show TBox (w.alloc (.cells #[.slice p1 ps.length c1, .slice p2 ws.length c2] 28)) w.heap.size (.slice p1 ps.length c1) (.slice p2 ws.length c2) from alloc_heap w _)
  obtain ⟨x0, x1⟩ := T1.out.cells
  obtain ⟨wa, hwa⟩ : ∃ wa, wa = w.alloc (.cells #[.slice p1 ps.length c1, .slice p2 ws.length c2] 28) := ⟨_, rfl⟩
  rw [← hwa] at B1 T1
  have HBA := Lib.hid B1
  clear B1
  obtain ⟨R, hR⟩ : ∃ R, R = kidT ps L x := ⟨_, rfl⟩
  obtain ⟨K, hK⟩ : ∃ K, K = kidsT ps (x : Int) := ⟨_, rfl⟩
  rw [← hR] at KALL ⊢
  rw [← hK] at KI KN KL KBD KTK KALL KZ
  have LN := Lib.hid hL
  clear hR hK hL
  go_enter Try.func77, Try.ntmps77
  go_wp2_with fail
  rw [← hwa]
  clear hwa x0 x1
  refine (KI.out _ HBA.out).mono ?_
  rintro e w3 ⟨uk, rfl, o3, b3⟩
  have HB3 := Lib.hid (HBA.out.trans (b3.mono HBA.out.size))
  obtain ⟨pk, ck, rfl, _, _, _, ik⟩ := o3.intsV
  have IK := Lib.hid ik
  have KNI : Hid (∀ i, i < K.length → ∃ y : Nat, K.getD i 0 = (y : Int) ∧ y < ps.length) := Lib.hid (fun i hi => KN.out _ (by
    rw [List.getD_eq_getElem?_getD, List.getElem?_eq_getElem hi]
    exact List.getElem_mem _))
  obtain ⟨f, hf⟩ : ∃ f : Nat → Int, f = fun y => L.getD y 0 := ⟨_, rfl⟩
  have FD : Hid (∀ y, f y = L.getD y 0) := Lib.hid (fun y => by rw [hf])
  rw [← hf] at KBD KTK KALL KZ
  clear hf b3 o3 ik KN KI HBA T1
  go_wp2
  go_loopg [7, 9] K.length (fun gg m i wr => ∃ k : Nat, k ≤ K.length ∧ K.length - k ≤ gg ∧ i = .int .i64 k ∧ m = .int .i64 (kidF f (K.take k)) ∧ ∃ nn, wr = w3.drewN nn)
  case atStart => exact ⟨0, Nat.zero_le _, by omega, rfl, by rw [KZ.out], 0, rfl⟩
  case round =>
    obtain ⟨k, hk, hgg, rfl, rfl, nn, rfl⟩ := hrel
    have kb := KBD.out k hk
    by_cases hlt : k < K.length
    · obtain ⟨y, hy, hyn⟩ := KNI.out k hlt
      obtain ⟨bk, ok, hqk, hbk, h1⟩ := IK.out.get hlt
      subst hqk
      obtain ⟨bz, oz, hqz, hbz, h3⟩ := Q1.out.get (i := y) (by have := LN.out; omega)
      subst hqz
      have h3' : w3.cell? ⟨bz, oz + y, none⟩ = some (.int .i64 (L.getD y 0)) := by rw [HB3.out.cell (p := ⟨bz, oz + y, none⟩) hbz]; exact h3
      have fb := FB.out y hyn
      have TK := KTK.out k hlt
      rw [hy, Int.toNat_natCast] at TK
      try rw [FD.out] at TK
      rw [hy] at h1
      have kb2 := KBD.out (k + 1) (by omega)
      obtain ⟨m, hm⟩ : ∃ m, m = kidF f (K.take k) := ⟨_, rfl⟩
      obtain ⟨zy, hzy⟩ : ∃ m, m = L.getD y 0 := ⟨_, rfl⟩
      rw [← hm] at kb TK ⊢
      rw [← hzy] at h3' fb TK
      have TK2 := Lib.hid TK
      have i0 : (0 : Int) ≤ (k : Int) := by omega
      have i1 : (k : Int) < (K.length : Int) := by omega
      have i2 : (0 : Int) ≤ (y : Int) := by omega
      have i3 : (y : Int) < (L.length : Int) := by have := LN.out; omega
      have pb : -1000000000 ≤ zy ∧ zy ≤ 1000000000 := by omega
      have mb : -24000000000 ≤ m ∧ m ≤ 24000000000 := by omega
      clear hy hm hzy fb TK kb kb2 h3
      go_wp2_with fail
      go_roundg (K.length - (k + 1))
      case rel => exact ⟨k + 1, by omega, by omega, by go_num, by rw [TK2.out], _, rfl⟩
      case measure => omega
    · have KE := Lib.hid (KALL.out k (by omega))
      go_wp2_with fail
      go_ret
      rw [KE.out]
      exact ⟨rfl, below_drewN HB3.out nn⟩
end Go.Proofs.Ytfpckfameebdnaa
