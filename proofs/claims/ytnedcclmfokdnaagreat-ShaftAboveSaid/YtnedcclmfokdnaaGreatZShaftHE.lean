import Derived.Test.YtnedcclmfokdnaaGreatJ8
namespace Go.Proofs.YtnedcclmfokdnaaGreat
open Go.RowKit
def walkR (l : List Tie) (p : List Int) (frm : Int) : Value := match walkI l p frm 0 with
  | some (a, s) => .tuple #[.int .i64 a, .int .i64 s, .bool true]
  | none => .tuple #[.int .i64 0, .int .i64 0, .bool false]
set_option maxHeartbeats 1000000 in
set_option maxRecDepth 100000 in
theorem walk_c (m : Int) (u v : Value) (l : List Tie) (p : List Int) (frm : Int) (w : World) (hu : TiesAt w w.heap.size u l) (hv : Ints w w.heap.size v p) (hs : TiesSmall l) (hp : p.length ≤ 1000) (_hl : l.length ≤ 1000) :
    Calls Tryz.prog 91 #[.agg #[.int .i64 m, u], .int .i64 frm, v] w fun e w' => e = .returned (walkR l p frm) ∧ Below w.heap.size w w' := by
  obtain ⟨A, cap, rfl, _, hn, hat⟩ := hu.open_
  obtain ⟨A2, cap2, rfl, _, hn2, hat2⟩ := hv.open_
  have H := Lib.hid hat
  have H2 := Lib.hid hat2
  have HS := Lib.hid hs
  clear hat hat2 hs
  go_enter Tryz.func91, Tryz.ntmps91
  go_wp2
  go_loopw [9, 10, 16] (fun a s i wr => ∃ (j : Nat) (at_ sum : Int), j ≤ p.length ∧ i = .int .i64 j ∧ a = .int .i64 at_ ∧ s = .int .i64 sum ∧ w.alloc (.cells #[.int .i64 m, .slice A l.length cap] 145) = wr ∧ Hid (walkI l (p.take j) frm 0 = some (at_, sum))) (fun _ _ i _ => p.length - (intOf i).toNat)
  case atStart => exact ⟨0, frm, 0, Nat.zero_le _, rfl, rfl, rfl, rfl, rfl⟩
  case round =>
    obtain ⟨j, at_, sum, hj, rfl, rfl, rfl, rfl, hq⟩ := hrel
    have hsum := walkI_bound HS.out _ _ _ _ _ hq.out
    have htk : (p.take j).length ≤ 1000 := by have := List.length_take_le j p; omega
    have hs1 : -16777216000 ≤ sum := by omega
    have hs2 : sum ≤ 16777216000 := by omega
    clear hsum htk
    by_cases hlt : j < p.length
    · obtain ⟨b, off, x, rfl, _, hx0, cx⟩ := H2.out j hlt
      have hx := Lib.hid hx0
      clear hx0
      by_cases hin : 0 ≤ x ∧ x < l.length
      · obtain ⟨q, rfl⟩ := Int.eq_ofNat_of_zero_le hin.1
        have hql : q < l.length := by omega
        obtain ⟨b2, off2, t, rfl, _, ht0, c0, c1, c2, c3⟩ := H.out q hql
        have ht := Lib.hid ht0
        have htb := HS.out q t ht0
        clear ht0
        by_cases hf : t.frm = at_
        · have hfb : (t.frm != at_) = false := by simp [hf]
          have HF := Lib.hid hf
          clear hf
          go_wp2_with fail
          go_roundw
          case rel => exact ⟨j + 1, t.too, sum + t.most, by omega, by go_num, rfl, rfl, trivial, walk_step hq.out hx.out ht.out HF.out⟩
          case measure => simp [intOf]; omega
        · have hfb : (t.frm != at_) = true := by simp [hf]
          have HF := Lib.hid hf
          clear hf
          have hpi : Hid (walkR l p frm = .tuple #[.int .i64 0, .int .i64 0, .bool false]) := by
            show walkR l p frm = _
            unfold walkR; rw [walk_stop hq.out hx.out fun t' ht' => by rw [tieAt_nat, ht.out] at ht'; cases ht'; exact HF.out]
          go_wp2_with fail
          go_ret3
          exact ⟨by rw [hpi.out]; rfl, below_alloc _ _⟩
      · have hpi : Hid (walkR l p frm = .tuple #[.int .i64 0, .int .i64 0, .bool false]) := by
          show walkR l p frm = _
          unfold walkR; rw [walk_stop hq.out hx.out fun t' ht' => by rw [tieAt_out hin] at ht'; cases ht']
        have hc : x < 0 ∨ (0 ≤ x ∧ (l.length : Int) ≤ x) := by omega
        clear hin
        rcases hc with hc | ⟨hc, hc2⟩
        all_goals
          go_wp2_with fail
          go_ret3
          exact ⟨by rw [hpi.out]; rfl, below_alloc _ _⟩
    · obtain rfl : j = p.length := by omega
      have hpi : Hid (walkR l p frm = .tuple #[.int .i64 at_, .int .i64 sum, .bool true]) := by
        show walkR l p frm = _
        have := hq.out
        rw [List.take_length] at this
        unfold walkR; rw [this]
      go_wp2_with fail
      go_ret3
      exact ⟨by rw [hpi.out]; rfl, below_alloc _ _⟩
end Go.Proofs.YtnedcclmfokdnaaGreat
