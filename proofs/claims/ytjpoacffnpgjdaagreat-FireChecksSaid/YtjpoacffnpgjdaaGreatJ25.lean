/- Texts joined: FProgClone. -/
import Derived.Test.YtjpoacffnpgjdaaGreatJ12
import Derived.Lib.LazyBuf
/- Clone of looks: by the program. -/
namespace Go.Proofs.YtjpoacffnpgjdaaGreat
open Go Go.RowKit Go.Shelf

theorem Tryz.infoLookF : (Tryz.prog.info? 90).map (fun i => (i.zero, i.size, i.bytes)) = some (some (.agg #[.int .i64 0, .int .i64 0, .int .i64 0, .int .i64 0, .int .i64 0]), 5, 40) := by kernel_rfl
theorem look_cells {w : World} {B cap : Nat} {ad : Addr} {l : List Lk} (h : Lks w B (.slice (some ad) l.length cap) l) : ∀ j u, (l.flatMap lkC)[j]? = some u → w.cell? (ad.add j) = some u := fun j u hu => by
  obtain ⟨A', c', e, hl1, hl2, h3⟩ := h
  have hj : j < l.length * 5 := by have := (List.getElem?_eq_some_iff.1 hu).1; rwa [flat_length lkC_len] at this
  obtain ⟨b, off, e2, hb, hc⟩ := h3 (by omega)
  have hi : j / 5 < l.length := by omega
  have hx := List.getElem?_eq_getElem hi
  have hq : j % 5 < (lkC l[j / 5]).length := by rw [lkC_len]; omega
  have hu' := List.getElem?_eq_getElem hq
  have ht := flat_at lkC_len l (j / 5) _ (j % 5) _ hx hu'
  rw [show j / 5 * 5 + j % 5 = j by omega, hu] at ht
  have hcell := hc (j / 5) _ hx (j % 5) _ hu'
  rw [← Option.some.inj ht] at hcell
  simp only [Value.slice.injEq] at e
  rw [e2] at e
  obtain rfl := Option.some.inj e.1
  rw [show off + j / 5 * 5 + j % 5 = off + j by omega] at hcell
  simp only [Addr.add]
  by_cases h0 : j = 0
  · subst h0; simpa using hcell
  · simpa [h0] using hcell
theorem look_one (l : List Lk) : ∀ u ∈ l.flatMap lkC, u.oneCell' = true := fun u hu => by
  obtain ⟨x, _, hx⟩ := List.mem_flatMap.1 hu
  simp only [lkC, List.mem_cons, List.not_mem_nil, or_false] at hx
  rcases hx with rfl | rfl | rfl | rfl | rfl <;> rfl
set_option maxRecDepth 100000 in
theorem clone_c (v : Value) (l : List Lk) (w : World) (hv : Lks w w.heap.size v l) (hlen : l.length ≤ 5000) :
    Calls Tryz.prog 69 #[v] w fun e w' => ∃ u, e = .returned u ∧ w'.ownsRow w.heap.size 90 5 u l.length (l.flatMap lkC) ∧ Below w.heap.size w w' := by
  obtain ⟨A, cap, rfl⟩ := hv.form
  obtain ⟨i0, hi, hz0, hz1, hz2⟩ := info_parts Tryz.infoLookF
  have HI := Lib.hid hi
  have HI0 := Lib.hid hz0
  have HI1 := Lib.hid hz1
  have HI2 := Lib.hid hz2
  have HV := Lib.hid hv
  clear hi hz0 hz1 hz2 hv
  cases A with
  | none =>
    obtain rfl : l = [] := by
      rcases l with _ | ⟨x, l⟩
      · rfl
      · obtain ⟨A', c', e, _, _, h3⟩ := HV.out
        obtain ⟨b, off, e2, _⟩ := h3 (by simp)
        simp only [Value.slice.injEq] at e
        rw [e2] at e; cases e.1
    have heqn : ∀ W, (binOp .eql 22 (.slice none 0 cap) (.slice none 0 0)).run Tryz.prog W = .ok (.bool true) W := fun W => run_eql_slice_nil W _ 90 none _ _ Tryz.underlying22
    go_enter Tryz.func69, Tryz.ntmps69
    go_wp2_with fail
    refine bodyPost_ret (v := .slice none 0 0) ?_ rfl ⟨_, rfl, World.ownsRow_nil _ _ _ _, Below.refl _ _⟩
    simp [results, Tryz.results69, go_sem]
  | some ad =>
    have heqn : ∀ W, (binOp .eql 22 (.slice (some ad) l.length cap) (.slice none 0 0)).run Tryz.prog W = .ok (.bool false) W := fun W => run_eql_slice_nil W _ 90 (some ad) _ _ Tryz.underlying22
    have hown : (w.alloc (.cells #[] 90)).ownsRow w.heap.size 90 5 (.slice (some ⟨w.heap.size, 0, none⟩) 0 0) 0 [] := World.ownsRow_lit w #[] 0 (Nat.le_refl _) (by omega) rfl
    have hb1 := below_alloc w (.cells #[] 90)
    have hnews := look_cells (HV.out.later hb1)
    go_enter Tryz.func69, Tryz.ntmps69
    go_wp2_with (at_builtin; refine wpList_append_own _ rfl _ _ 22 rfl w.heap.size 90 i0 (.agg #[.int .i64 0, .int .i64 0, .int .i64 0, .int .i64 0, .int .i64 0]) 5 40 Tryz.underlying22 HI.out HI0.out HI1.out HI2.out rfl (by decide) _ 0 [] rfl hown ad l.length cap (l.flatMap lkC) rfl (flat_length lkC_len l) hnews (look_one l) ?c3 ?c4 ?c5 ?_)
    case c3 => unfold maxLen; omega
    case c4 => omega
    case c5 => simp
    intro v' w1 hown' hgrow _
    have hB := hb1.grown hgrow (by simp) fun k e => by cases e; exact Nat.le_refl _
    clear hgrow hown hnews
    go_wp2_with fail
    refine bodyPost_ret (v := v') ?_ rfl ⟨_, rfl, hown', hB⟩
    simp [results, Tryz.results69, go_sem]
end Go.Proofs.YtjpoacffnpgjdaaGreat
