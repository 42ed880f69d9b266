/- Texts joined: FProgH FProgI FProgFirst FProgSpans FProgBurn. -/
import Derived.Test.YtjpoacffnpgjdaaGreatJ13
import Derived.Test.YtjpoacffnpgjdaaGreatJ14
import Derived.Test.YtjpoacffnpgjdaaGreatJ7
/- What is known by a fire: sightOf; the first one of ends: by the program. -/
namespace Go.Proofs.YtjpoacffnpgjdaaGreat
open Go Go.RowKit Go.Shelf
attribute [local go_sem] Oper.semAt_some

/-- A list of things stays where its block is as it was. -/
theorem Sl.agree {α : Type} {c : α → List Value} {s : Nat} {w w' : World} {B B' : Nat} {v : Value} {l : List α} (h : Sl c s w B v l) (hk : ∀ k, v.ownBlock = some k → k < B → w'.heap[k]? = w.heap[k]?) (hB : B ≤ B') : Sl c s w' B' v l := by
  obtain ⟨A, cap, e, h1, h2, h3⟩ := h
  refine ⟨A, cap, e, h1, h2, fun hn => ?_⟩
  obtain ⟨b, off, e2, hb, hc⟩ := h3 hn
  have hh := hk b (by rw [e, e2]; rfl) hb
  exact ⟨b, off, e2, by omega, fun i x hx j u hu => by have := hc i x hx j u hu; unfold World.cell? at this ⊢; rw [hh]; exact this⟩
set_option maxHeartbeats 1000000 in
theorem sightOf_c (f : Fi) (vl : Value) (w : World) (hl : Lks w w.heap.size vl f.ls) (hd : f.ls.Pairwise (fun a b => a.id ≠ b.id)) (hlen : f.ls.length ≤ 5000) :
    Calls Tryz.prog 60 #[fiV f vl] w fun e w' => ∃ S gf lb, e = .returned (siV f (.func (.func gf) #[] lb)) ∧ Srt S f.ls ∧ (∀ u, (∀ k, w.heap.size ≤ k → k < w'.heap.size → u.heap[k]? = w'.heap[k]?) → w'.heap.size ≤ u.heap.size → Gives Tryz.prog u.heap.size 0 fireU (.func (.func gf) #[] lb) encLk S u) ∧ Below w.heap.size w w' := by
  obtain ⟨A, cap, rfl⟩ := hl.form
  obtain ⟨q0, q1, qs, qb⟩ := two_new' w (.cells #[.int .i64 f.rise, .int .i64 f.fall, .int .i64 f.up, .int .i64 f.down, .slice A f.ls.length cap] 24) (.cells #[.int .i64 0, .int .i64 0, .int .i64 0, .int .i64 0, .nilFunc] 114)
  unfold fiV siV
  go_enter Tryz.func60, Tryz.ntmps60
  go_wp2_with fail
  have QS := Lib.hid qs
  clear qs
  generalize (w.alloc _).alloc _ = W2 at q0 q1 QS qb ⊢
  refine (valuesLk_c _ _ _ _).mono ?_
  rintro e W3 ⟨rfl, rfl⟩
  have n3 := heap_alloc_new W2 (.cells #[.slice A f.ls.length cap] 22)
  have a3 := below_alloc W2 (.cells #[.slice A f.ls.length cap] 22)
  generalize W2.alloc (.cells #[.slice A f.ls.length cap] 22) = W3 at n3 a3 ⊢
  replace q0 := (a3.block _ (size_of_block q0)).trans q0
  replace q1 := (a3.block _ (size_of_block q1)).trans q1
  replace qb := below_then qb a3
  have hG := valuesLk_g (B := 0) (U := []) (hl.later qb) (Nat.le_refl _) n3
  have hS := sortedLk_c _ W3.heap.size 0 f.ls W3 hG (Nat.le_refl _) hlen hd
  clear a3 n3 hG
  go_wp2_with fail
  refine hS.mono ?_
  rintro e W4 ⟨v, S, rfl, hS, hv, hvb, hb4⟩
  have z3 : w.heap.size + 1 < W3.heap.size := size_of_block q1
  obtain ⟨A2, cap2, rfl⟩ := hv.form
  replace q0 := (hb4.block _ (size_of_block q0)).trans q0
  replace q1 := (hb4.block _ (size_of_block q1)).trans q1
  replace qb := below_then qb hb4
  have c0 := Joins.cell_of_block q0 0
  have c1 := Joins.cell_of_block q0 1
  have c2 := Joins.cell_of_block q0 2
  have c3 := Joins.cell_of_block q0 3
  have c4 := Joins.cell_of_block q0 4
  clear hb4
  go_wp2_with fail
  refine (slopesOf_c f A f.ls.length cap _).mono ?_
  rintro e W5 ⟨rfl, hb5⟩
  replace q1 := (hb5.block _ (size_of_block q1)).trans q1
  have zq5 := size_of_block q1
  replace qb := below_then qb hb5
  replace hv := hv.later hb5
  clear c0 c1 c2 c3 c4 hb5 q0
  unfold slV
  go_wp2_with fail
  refine (valuesLk_c _ _ _ _).mono ?_
  rintro e W6 ⟨rfl, rfl⟩
  have n6 := heap_alloc_new W5 (.cells #[.slice A2 S.length cap2] 22)
  have a6 := below_alloc W5 (.cells #[.slice A2 S.length cap2] 22)
  have s6 : (W5.alloc (.cells #[.slice A2 S.length cap2] 22)).heap.size = W5.heap.size + 1 := by simp
  generalize W5.alloc (.cells #[.slice A2 S.length cap2] 22) = W6 at n6 a6 s6 ⊢
  replace q1 := (a6.block _ (size_of_block q1)).trans q1
  have zq := size_of_block q1
  have zb := qb.size
  replace qb := below_then qb a6
  have B7 := below_setRow qb (show w.heap.size ≤ w.heap.size + 1 by omega) #[.int .i64 f.rise, .int .i64 f.fall, .int .i64 f.up, .int .i64 f.down, .func (.func 134) #[] #[.pointer (some ⟨W5.heap.size, 0, none⟩)]]
  have HR := Lib.hid (fun j : Nat => cell_setRow_same W6 (w.heap.size + 1) j _ #[.int .i64 f.rise, .int .i64 f.fall, .int .i64 f.up, .int .i64 f.down, .func (.func 134) #[] #[.pointer (some ⟨W5.heap.size, 0, none⟩)]] _ _ q1)
  go_wp2_with (refine wpList_store_rowTo rfl 114 _ _ rfl rfl (w.heap.size + 1) #[.int .i64 f.rise, .int .i64 f.fall, .int .i64 f.up, .int .i64 f.down, .func (.func 134) #[] #[.pointer (some ⟨W5.heap.size, 0, none⟩)]] rfl rfl 114 _ q1 (by kernel_rfl) rfl (by kernel_rfl) ?_)
  refine bodyPost_ret (v := .agg #[.int .i64 f.rise, .int .i64 f.fall, .int .i64 f.up, .int .i64 f.down, .func (.func 134) #[] #[.pointer (some ⟨W5.heap.size, 0, none⟩)]]) ?_ rfl ⟨S, _, _, rfl, hS, ?_, B7⟩
  · simp [results, Tryz.results60, go_sem, HR.out]
  · have hne : (Value.slice A2 S.length cap2).ownBlock ≠ some (w.heap.size + 1) := fun e => by have := hvb _ e; omega
    have r6 := (setRow_other W6 (w.heap.size + 1) W5.heap.size #[.int .i64 f.rise, .int .i64 f.fall, .int .i64 f.up, .int .i64 f.down, .func (.func 134) #[] #[.pointer (some ⟨W5.heap.size, 0, none⟩)]] (by omega)).trans n6
    have hv7 := ((hv.later a6).setRow hne #[.int .i64 f.rise, .int .i64 f.fall, .int .i64 f.up, .int .i64 f.down, .func (.func 134) #[] #[.pointer (some ⟨W5.heap.size, 0, none⟩)]]).more (B' := (W6.setRow (w.heap.size + 1) #[.int .i64 f.rise, .int .i64 f.fall, .int .i64 f.up, .int .i64 f.down, .func (.func 134) #[] #[.pointer (some ⟨W5.heap.size, 0, none⟩)]]).heap.size) (by rw [size_setRow]; omega)
    intro u hu hsu
    have hu6 : u.heap[W5.heap.size]? = some (.cells #[.slice A2 S.length cap2] 22) := (hu _ (by omega) (size_of_block r6)).trans r6
    have hvu := hv7.agree (w' := u) (B' := u.heap.size) (fun k hk hkb => hu k (by have := hvb k hk; omega) hkb) hsu
    exact valuesLk_g (B := 0) (U := fireU) hvu (Nat.le_refl _) hu6
/-- The function value v tells ahead of two ends; it makes memory of its own alone. -/
def Ahead (P : Program) (v : Value) (ahead : Int × Int → Int × Int → Bool) : Prop :=
  ∃ (gf : Nat) (lb : Array Value), v = .func (.func gf) #[] lb ∧ (∀ args w, (callFunc gf args).run P w = .ok (.enter gf args) w) ∧
    ∀ (x y : Int × Int) (W : World), Calls P gf (#[.agg #[.int .i64 x.1, .int .i64 x.2], .agg #[.int .i64 y.1, .int .i64 y.2]] ++ lb) W fun e W' => e = .returned (.bool (ahead x y)) ∧ Below W.heap.size W W'
theorem aheadLow_t : Ahead Tryz.prog (.func (.func 122) #[] #[]) (fun a b => decide (b.1 < a.1)) := by
  refine ⟨_, _, rfl, enters_of Tryz.func122 (by kernel_rfl) rfl, fun x y W => ?_⟩
  show Calls _ _ #[.agg #[.int .i64 x.1, .int .i64 x.2], .agg #[.int .i64 y.1, .int .i64 y.2]] W _
  go_enter Tryz.func122, Tryz.ntmps122
  go_wp2
  go_ret
  exact ⟨rfl, below_then (below_alloc _ _) (below_alloc _ _)⟩
theorem aheadHigh_t : Ahead Tryz.prog (.func (.func 124) #[] #[]) (fun a b => decide (a.1 < b.1)) := by
  refine ⟨_, _, rfl, enters_of Tryz.func124 (by kernel_rfl) rfl, fun x y W => ?_⟩
  show Calls _ _ #[.agg #[.int .i64 x.1, .int .i64 x.2], .agg #[.int .i64 y.1, .int .i64 y.2]] W _
  go_enter Tryz.func124, Tryz.ntmps124
  go_wp2
  go_ret
  exact ⟨rfl, below_then (below_alloc _ _) (below_alloc _ _)⟩
def bestP (o : Option (Int × Int)) : Int × Int := match o with | some b => b | none => (0, 0)
theorem four_new (w : World) (o0 o1 o2 o3 : Obj) : ((((w.alloc o0).alloc o1).alloc o2).alloc o3).heap[w.heap.size]? = some o0 ∧ ((((w.alloc o0).alloc o1).alloc o2).alloc o3).heap[w.heap.size + 1]? = some o1 ∧ ((((w.alloc o0).alloc o1).alloc o2).alloc o3).heap[w.heap.size + 1 + 1]? = some o2 ∧ ((((w.alloc o0).alloc o1).alloc o2).alloc o3).heap[w.heap.size + 1 + 1 + 1]? = some o3 ∧ ((((w.alloc o0).alloc o1).alloc o2).alloc o3).heap.size = w.heap.size + 1 + 1 + 1 + 1 ∧ Below w.heap.size w ((((w.alloc o0).alloc o1).alloc o2).alloc o3) := by
  obtain ⟨h0, h1, h2, hs, hb⟩ := three_new w o0 o1 o2
  have b3 := below_alloc (((w.alloc o0).alloc o1).alloc o2) o3
  refine ⟨(b3.block _ (size_of_block h0)).trans h0, (b3.block _ (size_of_block h1)).trans h1, (b3.block _ (size_of_block h2)).trans h2, ?_, by simp, below_then hb b3⟩
  have := heap_alloc_new (((w.alloc o0).alloc o1).alloc o2) o3
  rwa [hs] at this
theorem first_put {a b c d B : Nat} {w W : World} {o0 : Obj} {o1 : Obj} {p q r : Value} {t2 t3 : TypeId} (x y z : Value) (i0 : W.heap[a]? = some o0) (i1 : W.heap[b]? = some o1) (i2 : W.heap[c]? = some (.cells #[p, q] t2)) (i3 : W.heap[d]? = some (.cells #[r] t3))
    (hb : Below w.heap.size w W) (hac : a ≠ c) (had : a ≠ d) (hbc : b ≠ c) (hbd : b ≠ d) (hcd : c ≠ d) (hc : w.heap.size ≤ c) (hd : w.heap.size ≤ d) {U : List TypeId} (h2 : t2 ∉ U) (h3 : t3 ∉ U) :
    KeepsFrom B W (((W.setCell ⟨c, 0, none⟩ x).setCell ⟨c, 1, none⟩ y).setCell ⟨d, 0, none⟩ z) ∧ Kp w.heap.size 0 U W (((W.setCell ⟨c, 0, none⟩ x).setCell ⟨c, 1, none⟩ y).setCell ⟨d, 0, none⟩ z) ∧
      (((((W.setCell ⟨c, 0, none⟩ x).setCell ⟨c, 1, none⟩ y).setCell ⟨d, 0, none⟩ z).heap[a]? = some o0 ∧ (((W.setCell ⟨c, 0, none⟩ x).setCell ⟨c, 1, none⟩ y).setCell ⟨d, 0, none⟩ z).heap[b]? = some o1) ∧
        (((W.setCell ⟨c, 0, none⟩ x).setCell ⟨c, 1, none⟩ y).setCell ⟨d, 0, none⟩ z).heap[c]? = some (.cells #[x, y] t2) ∧ (((W.setCell ⟨c, 0, none⟩ x).setCell ⟨c, 1, none⟩ y).setCell ⟨d, 0, none⟩ z).heap[d]? = some (.cells #[z] t3)) ∧
      Below w.heap.size w (((W.setCell ⟨c, 0, none⟩ x).setCell ⟨c, 1, none⟩ y).setCell ⟨d, 0, none⟩ z) := by
  have j3 := (put_other (i := 1) y (Ne.symm hcd)).trans ((put_other (i := 0) x (Ne.symm hcd)).trans i3)
  refine ⟨(((KeepsOthers.setCell _ _ _).from _).trans ((KeepsOthers.setCell _ _ _).from _)).trans ((KeepsOthers.setCell _ _ _).from _), ((kp_setCell i2 h2 hc).trans (kp_setCell (Joins.block_setCell (i := 0) i2 x) h2 hc)).trans (kp_setCell j3 h3 hd), ⟨⟨?_, ?_⟩, ?_, ?_⟩, below_set (below_set (below_set hb hc) hc) hd⟩
  · exact (put_other z had).trans ((put_other y hac).trans ((put_other x hac).trans i0))
  · exact (put_other z hbd).trans ((put_other y hbc).trans ((put_other x hbc).trans i1))
  · exact (put_other z hcd).trans (put2b x y i2)
  · exact put1b z j3
set_option maxRecDepth 100000 in
set_option maxHeartbeats 4000000 in
theorem firstE_c (things av : Value) (ahead : Int × Int → Int × Int → Bool) (xs : List (Int × Int)) (w : World) (hG : Gives Tryz.prog w.heap.size 0 fireU things encE xs w) (hA : Ahead Tryz.prog av ahead) :
    Calls Tryz.prog 121 #[things, av] w fun e w' => e = .returned (.tuple #[.agg #[.int .i64 (bestP (firstL ahead xs)).1, .int .i64 (bestP (firstL ahead xs)).2], .bool (firstL ahead xs).isSome]) ∧ Below w.heap.size w w' := by
  obtain ⟨gf, lb, rfl, -⟩ : ∃ gf lb, things = .func (.func gf) #[] lb ∧ True := by obtain ⟨gf, lb, h, _⟩ := hG; exact ⟨gf, lb, h, trivial⟩
  obtain ⟨ga, la, rfl, ea, hT⟩ := hA
  obtain ⟨q0, q1, q2, q3, qs, qb⟩ := four_new w (.cells #[.func (.func ga) #[] la] 175) (.cells #[.int .i64 0, .int .i64 0] 140) (.cells #[.int .i64 0, .int .i64 0] 140) (.cells #[.bool false] 4)
  (refine (callsIn_wide (n := 9)).1 (callsIn_of_wp_marks Tryz.func121 rfl trivial ?_ rfl); simp only [Tryz.ntmps121, List.size_toArray, List.length_cons, List.length_nil, Nat.reduceAdd, Nat.reduceSub, Array.replicate_succ, Array.replicate_zero, List.push_toArray, List.append_toArray, List.nil_append, List.cons_append])
  gi_wp2_with fail
  have QS := Lib.hid qs
  generalize (((w.alloc _).alloc _).alloc _).alloc _ = W0 at q0 q1 q2 q3 qs QS qb ⊢
  refine wpIn_over (U := fireU) (n₀ := w.heap.size) (B := 0) (hG.later qb) rfl (fun _ => rfl) (by omega)
    (fun pre W' => ((W'.heap[w.heap.size]? = some (.cells #[.func (.func ga) #[] la] 175) ∧ W'.heap[w.heap.size + 1]? = some (.cells #[.int .i64 0, .int .i64 0] 140)) ∧ W'.heap[w.heap.size + 1 + 1]? = some (.cells #[.int .i64 (bestP (firstL ahead pre)).1, .int .i64 (bestP (firstL ahead pre)).2] 140) ∧ W'.heap[w.heap.size + 1 + 1 + 1]? = some (.cells #[.bool (firstL ahead pre).isSome] 4)) ∧ Below w.heap.size w W')
    (fun _ _ _ => False)
    ((((own_cells _ _ _ fun _ => rfl).and (own_cells _ _ _ fun _ => rfl)).and ((own_cells _ _ _ fun _ => rfl).and (own_cells _ _ _ fun _ => rfl))).and (ownFrom_below (Nat.le_refl _) (by omega)))
    (fun _ _ _ _ _ hs _ _ => hs) ⟨⟨⟨q0, q1⟩, q2, q3⟩, qb⟩
    (fun x a' W' => ∃ Bx, w.heap.size + 1 + 1 + 1 + 1 ≤ Bx ∧ W'.heap[Bx]? = some (.cells #[.int .i64 x.1, .int .i64 x.2] 140) ∧ a' = { tmps := #[.func (.func gf) #[] lb, .func (.func ga) #[] la, undef, .pointer (some ⟨w.heap.size, 0, none⟩), .pointer (some ⟨w.heap.size + 1, 0, none⟩), .bool false, .pointer (some ⟨w.heap.size + 1 + 1, 0, none⟩), .pointer (some ⟨w.heap.size + 1 + 1 + 1, 0, none⟩), .pointer (some ⟨Bx, 0, none⟩), .func (.func gf) #[] lb, .agg #[.int .i64 x.1, .int .i64 x.2], undef, undef, undef, undef, undef, undef, undef, undef, undef, undef, undef], defers := [] })
    (fun x a' s X Y row hs hg hrow => by
      obtain ⟨Bx, h1, h2, h3⟩ := hs
      exact ⟨Bx, h1, own_cells (β := Unit) W0.heap.size Bx (fun _ => .cells #[.int .i64 x.1, .int .i64 x.2] 140) (fun _ => rfl) s X Y row h2 hg hrow, h3⟩) ?assign ?body ?done ?stop
  case assign =>
    rintro l pre x W' K hl ⟨⟨⟨i0, i1⟩, i2, i3⟩, i4⟩ hp hK
    unfold encE
    gi_wp2
    have ha := below_alloc W' (.cells #[.int .i64 x.1, .int .i64 x.2] 140)
    have hz := size_of_block i3
    have hsz := i4.size
    refine hK _ _ (keeps_of_below ha) (Kp.of_below ha (by omega)) ⟨⟨⟨(ha.block _ (size_of_block i0)).trans i0, (ha.block _ (size_of_block i1)).trans i1⟩, (ha.block _ (size_of_block i2)).trans i2, (ha.block _ hz).trans i3⟩, below_then i4 ha⟩ ⟨W'.heap.size, by omega, heap_alloc_new _ _, rfl⟩
  case done =>
    rintro D W' hD ⟨⟨⟨i0, i1⟩, i2, i3⟩, i4⟩ hK
    obtain ⟨b, hb⟩ : ∃ b, b = bestP (firstL ahead xs) := ⟨_, rfl⟩
    obtain ⟨fd, hfd⟩ : ∃ fd, fd = (firstL ahead xs).isSome := ⟨_, rfl⟩
    rw [← hb] at i2
    rw [← hfd] at i3
    have z1 := size_of_block i1
    have c2 := Joins.cell_of_block i2 0
    have c2' := Joins.cell_of_block i2 1
    have c3 := Joins.cell_of_block i3 0
    have f1 := Joins.unfrozen_of_block i1 0
    have f1' := Joins.unfrozen_of_block i1 1
    have c1 := Joins.cell_of_block i1 0
    have c1' := Joins.cell_of_block i1 1
    have HB := Lib.hid hb
    have HFD := Lib.hid hfd
    clear hb hfd
    gi_wp2_with fail
    gi_region
    have hne : D ≠ w.heap.size + 1 := by omega
    have hK2 : ((W'.setCell ⟨w.heap.size + 1, 0, none⟩ (.int .i64 b.1)).setCell ⟨w.heap.size + 1, 1, none⟩ (.int .i64 b.2)).drew.heap[D]? = some (.deferred (some [])) := ((Below.heap_setCell _ ⟨w.heap.size + 1, 1, none⟩ _ D hne).trans (Below.heap_setCell _ ⟨w.heap.size + 1, 0, none⟩ _ D hne)).trans hK
    have B2 : Below w.heap.size w ((W'.setCell ⟨w.heap.size + 1, 0, none⟩ (.int .i64 b.1)).setCell ⟨w.heap.size + 1, 1, none⟩ (.int .i64 b.2)).drew := (below_set (below_set i4 (by omega)) (by omega)).drew
    have r1 : ((W'.setCell ⟨w.heap.size + 1, 0, none⟩ (.int .i64 b.1)).setCell ⟨w.heap.size + 1, 1, none⟩ (.int .i64 b.2)).drew.heap[w.heap.size + 1]? = some (.cells #[.int .i64 b.1, .int .i64 b.2] 140) := put2b (.int .i64 b.1) (.int .i64 b.2) i1
    generalize ((W'.setCell ⟨w.heap.size + 1, 0, none⟩ (.int .i64 b.1)).setCell ⟨w.heap.size + 1, 1, none⟩ (.int .i64 b.2)).drew = W2 at hK2 B2 r1 ⊢
    gi_wp2
    refine ⟨by simp, .inl ⟨_, _, rfl, run_takeDeferred hK2, ?_⟩⟩
    have r2 := (World.putObj_heap_other (w := W2) (r := D) (o := .deferred none) (Ne.symm hne)).trans r1
    have e0 := Joins.cell_of_block r2 0
    have e1 := Joins.cell_of_block r2 1
    refine ⟨.tuple #[.agg #[.int .i64 b.1, .int .i64 b.2], .bool fd], ?_, by rw [HB.out, HFD.out], B2.trans (belowK_b (w := w) (Nat.le_refl _) W2 D _ _ (by omega) hK2 rfl rfl)⟩
    simp [results, Tryz.results121, go_sem, e0, e1]
  case stop =>
    intro D c pre W' _ _ h _
    exact h.elim
  case body =>
    rintro l pre x a' W' hl hrc ⟨⟨⟨i0, i1⟩, i2, i3⟩, i4⟩ ⟨Bx, hBx, xB, rfl⟩ hp
    have hw' := i4.size
    have z0 := size_of_block i0
    have z1 := size_of_block i1
    have z2 := size_of_block i2
    have z3 := size_of_block i3
    have zx := size_of_block xB
    have c0 := Joins.cell_of_block i0 0
    have c2 := Joins.cell_of_block i2 0
    have c2' := Joins.cell_of_block i2 1
    have c3 := Joins.cell_of_block i3 0
    have x0 := Joins.cell_of_block xB 0
    have x1 := Joins.cell_of_block xB 1
    have HN := Lib.hid (firstL_snoc ahead pre x)
    cases hfst : firstL ahead pre with
    | none =>
      rw [hfst] at c3 c2 c2' i2 i3
      have f2 := Joins.unfrozen_of_block i2 0
      have f2' := Joins.unfrozen_of_block i2 1
      have f3 := Joins.unfrozen_of_block i3 0
      have HF := Lib.hid hfst
      clear hfst
      simp only [Option.isSome_none] at c3 i3
      simp only [bestP] at c2 c2' i2
      have hr : firstL ahead (pre ++ [x]) = some x := by rw [HN.out, HF.out]
      have HR := Lib.hid hr
      clear hr
      gi_wp2_with fail
      refine ⟨fun _ h => (by cases h), ?_⟩
      gi_wp2_with fail
      show ownPostG _ _ _ _ _ _ _ _ _
      obtain ⟨k1, k2, k3, k4⟩ := first_put (B := W0.heap.size) (.int .i64 x.1) (.int .i64 x.2) (.bool true) i0 i1 i2 i3 i4 (by omega) (by omega) (by omega) (by omega) (by omega) (by omega) (by omega) (U := fireU) (by simp) (by simp)
      exact ⟨k1, k2, ⟨k3.1, by rw [HR.out]; exact k3.2⟩, k4⟩
    | some b =>
      rw [hfst] at c3 c2 c2' i2 i3
      have f2 := Joins.unfrozen_of_block i2 0
      have f2' := Joins.unfrozen_of_block i2 1
      have f3 := Joins.unfrozen_of_block i3 0
      have HF := Lib.hid hfst
      clear hfst
      simp only [Option.isSome_some] at c3 i3
      simp only [bestP] at c2 c2' i2
      have hT2 := hT x b W'
      cases hab : ahead x b with
      | true =>
        rw [hab] at hT2
        have hr : firstL ahead (pre ++ [x]) = some x := by rw [HN.out, HF.out]; simp [hab]
        have HR := Lib.hid hr
        clear hr
        gi_wp2_with fail
        refine ⟨trivial, calls_any (r := some l) (hT2.mono ?_)⟩
        rintro e W3 ⟨rfl, hb3⟩
        have j0 := (hb3.block _ z0).trans i0
        have j1 := (hb3.block _ z1).trans i1
        have j2 := (hb3.block _ z2).trans i2
        have j3 := (hb3.block _ z3).trans i3
        have jx := (hb3.block _ zx).trans xB
        have j4 := below_then i4 hb3
        have x0 := Joins.cell_of_block jx 0
        have x1 := Joins.cell_of_block jx 1
        have f2 := Joins.unfrozen_of_block j2 0
        have f2' := Joins.unfrozen_of_block j2 1
        have f3 := Joins.unfrozen_of_block j3 0
        have c2 := Joins.cell_of_block j2 0
        have c2' := Joins.cell_of_block j2 1
        have c3 := Joins.cell_of_block j3 0
        gi_wp2_with fail
        show ownPostG _ _ _ _ _ _ _ _ _
        obtain ⟨k1, k2, k3, k4⟩ := first_put (B := W0.heap.size) (.int .i64 x.1) (.int .i64 x.2) (.bool true) j0 j1 j2 j3 j4 (by omega) (by omega) (by omega) (by omega) (by omega) (by omega) (by omega) (U := fireU) (by simp) (by simp)
        exact ⟨(keeps_of_below hb3).trans k1, (Kp.of_below hb3 (by omega)).trans k2, ⟨k3.1, by rw [HR.out]; exact k3.2⟩, k4⟩
      | false =>
        rw [hab] at hT2
        have hr : firstL ahead (pre ++ [x]) = some b := by rw [HN.out, HF.out]; simp [hab]
        have HR := Lib.hid hr
        clear hr
        gi_wp2_with fail
        refine ⟨trivial, calls_any (r := some l) (hT2.mono ?_)⟩
        rintro e W3 ⟨rfl, hb3⟩
        have j0 := (hb3.block _ z0).trans i0
        have j1 := (hb3.block _ z1).trans i1
        have j2 := (hb3.block _ z2).trans i2
        have j3 := (hb3.block _ z3).trans i3
        have j4 := below_then i4 hb3
        gi_wp2_with fail
        show ownPostG _ _ _ _ _ _ _ _ _
        exact ⟨keeps_of_below hb3, Kp.of_below hb3 (by omega), ⟨⟨⟨j0, j1⟩, by rw [HR.out]; exact ⟨j2, j3⟩⟩, j4⟩⟩
end Go.Proofs.YtjpoacffnpgjdaaGreat
/- The ends of a spot, with the looks that show them: low, high, bounds, by the program. -/
namespace Go.Proofs.YtjpoacffnpgjdaaGreat
open Go Go.RowKit Go.Shelf
attribute [local go_sem] Oper.semAt_some Rel RelAt RelUpon

theorem low_c (f : Fi) (gf : Nat) (lb : Array Value) (w : World) :
    Calls Tryz.prog 89 #[siV f (.func (.func gf) #[] lb)] w fun e w' => e = .returned (.func (.func 120) #[] #[.pointer (some ⟨w.heap.size, 0, none⟩)]) ∧ w' = w.alloc (.cells #[.int .i64 f.rise, .int .i64 f.fall, .int .i64 f.up, .int .i64 f.down, .func (.func gf) #[] lb] 114) := by
  unfold siV
  go_enter Tryz.func89, Tryz.ntmps89
  go_wp2
  go_ret
  exact ⟨rfl, rfl⟩
theorem high_c (f : Fi) (gf : Nat) (lb : Array Value) (w : World) :
    Calls Tryz.prog 90 #[siV f (.func (.func gf) #[] lb)] w fun e w' => e = .returned (.func (.func 123) #[] #[.pointer (some ⟨w.heap.size, 0, none⟩)]) ∧ w' = w.alloc (.cells #[.int .i64 f.rise, .int .i64 f.fall, .int .i64 f.up, .int .i64 f.down, .func (.func gf) #[] lb] 114) := by
  unfold siV
  go_enter Tryz.func90, Tryz.ntmps90
  go_wp2
  go_ret
  exact ⟨rfl, rfl⟩
/-- A sight whose looks are those of a list, in the order of their IDs. -/
structure SOk (f : Fi) (S ls : List Lk) : Prop where
  slope : slopeB f = true
  look : ∀ x ∈ ls, lookB x = true
  srt : Srt S ls
theorem SOk.lookS {f : Fi} {S ls : List Lk} (h : SOk f S ls) : ∀ x ∈ S, lookB x = true := fun x hx => h.look x (h.srt.perm.mem_iff.1 hx)
theorem SOk.ids {f : Fi} {S ls : List Lk} (h : SOk f S ls) : ∀ x ∈ ls, 1 ≤ x.id := fun x hx => (look_iff.1 (h.look x hx)).1.1
set_option maxHeartbeats 2000000 in
theorem low1_c (f : Fi) (S ls : List Lk) (gf : Nat) (lb : Array Value) (p : Spt) (Bs : Nat) (w : World) (h : SOk f S ls) (hp : spotB p = true)
    (h0 : w.heap[Bs]? = some (.cells #[.int .i64 f.rise, .int .i64 f.fall, .int .i64 f.up, .int .i64 f.down, .func (.func gf) #[] lb] 114)) (hG : Gives Tryz.prog w.heap.size 0 fireU (.func (.func gf) #[] lb) encLk S w) :
    Calls Tryz.prog 120 #[sV p, .pointer (some ⟨Bs, 0, none⟩)] w fun e w' => e = .returned (.agg #[.int .i64 (endLo f ls p), .int .i64 (lowId f ls p)]) ∧ Below w.heap.size w w' := by
  have hfst := first_low h.srt h.ids p (f := f)
  obtain ⟨q0, q1, qs, qb⟩ := two_new' w (.cells #[.int .i64 p.foot, .int .i64 p.hour] 26) (.cells #[.int .i64 0, .int .i64 0] 140)
  have z0 := size_of_block h0
  unfold sV
  go_enter Tryz.func120, Tryz.ntmps120
  have s0 := Joins.cell_of_block h0 0
  have s1 := Joins.cell_of_block h0 1
  have s2 := Joins.cell_of_block h0 2
  have s3 := Joins.cell_of_block h0 3
  have s4 := Joins.cell_of_block h0 4
  go_wp2_with fail
  have QS := Lib.hid qs
  clear qs
  generalize (w.alloc _).alloc _ = W2 at q0 q1 QS qb ⊢
  have hl := lows_c f S (.func (.func gf) #[] lb) p W2 h.slope hp h.lookS ((hG.later qb).more qb.size)
  unfold siV sV at hl
  refine hl.mono ?_
  clear hl
  rintro e W3 ⟨gt, lt, rfl, hG3, hb3⟩
  go_wp2_with fail
  have hF := firstE_c _ _ _ _ W3 hG3 aheadLow_t
  rw [hfst] at hF
  refine hF.mono ?_
  clear hF hG3
  rintro e W4 ⟨rfl, hb4⟩
  have q14 := ((below_then hb3 hb4).block _ (size_of_block q1)).trans q1
  have B4 := below_then qb (below_then hb3 hb4)
  simp only [bestP, Option.isSome_some]
  obtain ⟨hv, hh⟩ : ∃ hv, hv = endLo f ls p := ⟨_, rfl⟩
  obtain ⟨iv, hi⟩ : ∃ iv, iv = lowId f ls p := ⟨_, rfl⟩
  rw [← hh, ← hi]
  have HH := Lib.hid hh
  have HI := Lib.hid hi
  clear hh hi
  have d0 := Joins.cell_of_block q14 0
  have d1 := Joins.cell_of_block q14 1
  have f0 := Joins.unfrozen_of_block q14 0
  have f1 := Joins.unfrozen_of_block q14 1
  have zq := size_of_block q14
  have B5 := below_then (below_set (i := 1) (v := .int .i64 iv) (below_set (i := 0) (v := .int .i64 hv) B4 (Nat.le_succ w.heap.size)) (Nat.le_succ w.heap.size)) (below_alloc _ (.cells #[.int .i64 hv, .int .i64 iv] 140))
  have HP := Lib.hid ((Below.heap_alloc ((W4.setCell ⟨w.heap.size + 1, 0, none⟩ (.int .i64 hv)).setCell ⟨w.heap.size + 1, 1, none⟩ (.int .i64 iv)) (.cells #[.int .i64 hv, .int .i64 iv] 140) (w.heap.size + 1) (by simp; exact zq)).trans (put2b (.int .i64 hv) (.int .i64 iv) q14))
  go_wp2_with fail
  refine bodyPost_ret (v := .agg #[.int .i64 hv, .int .i64 iv]) ?_ rfl ⟨by rw [HH.out, HI.out], B5⟩
  have e0 := Joins.cell_of_block HP.out 0
  have e1 := Joins.cell_of_block HP.out 1
  simp [results, Tryz.results120, go_sem, e0, e1]
set_option maxHeartbeats 2000000 in
theorem high1_c (f : Fi) (S ls : List Lk) (gf : Nat) (lb : Array Value) (p : Spt) (Bs : Nat) (w : World) (h : SOk f S ls) (hp : spotB p = true)
    (h0 : w.heap[Bs]? = some (.cells #[.int .i64 f.rise, .int .i64 f.fall, .int .i64 f.up, .int .i64 f.down, .func (.func gf) #[] lb] 114)) (hG : Gives Tryz.prog w.heap.size 0 fireU (.func (.func gf) #[] lb) encLk S w) :
    Calls Tryz.prog 123 #[sV p, .pointer (some ⟨Bs, 0, none⟩)] w fun e w' => e = .returned (.agg #[.int .i64 (endHi f ls p), .int .i64 (highId f ls p)]) ∧ Below w.heap.size w w' := by
  have hfst := first_high h.srt h.ids p (f := f)
  obtain ⟨q0, q1, qs, qb⟩ := two_new' w (.cells #[.int .i64 p.foot, .int .i64 p.hour] 26) (.cells #[.int .i64 0, .int .i64 0] 140)
  have z0 := size_of_block h0
  unfold sV
  go_enter Tryz.func123, Tryz.ntmps123
  have s0 := Joins.cell_of_block h0 0
  have s1 := Joins.cell_of_block h0 1
  have s2 := Joins.cell_of_block h0 2
  have s3 := Joins.cell_of_block h0 3
  have s4 := Joins.cell_of_block h0 4
  go_wp2_with fail
  have QS := Lib.hid qs
  clear qs
  generalize (w.alloc _).alloc _ = W2 at q0 q1 QS qb ⊢
  have hl := highs_c f S (.func (.func gf) #[] lb) p W2 h.slope hp h.lookS ((hG.later qb).more qb.size)
  unfold siV sV at hl
  refine hl.mono ?_
  clear hl
  rintro e W3 ⟨gt, lt, rfl, hG3, hb3⟩
  go_wp2_with fail
  have hF := firstE_c _ _ _ _ W3 hG3 aheadHigh_t
  rw [hfst] at hF
  refine hF.mono ?_
  clear hF hG3
  rintro e W4 ⟨rfl, hb4⟩
  have q14 := ((below_then hb3 hb4).block _ (size_of_block q1)).trans q1
  have B4 := below_then qb (below_then hb3 hb4)
  simp only [bestP, Option.isSome_some]
  obtain ⟨hv, hh⟩ : ∃ hv, hv = endHi f ls p := ⟨_, rfl⟩
  obtain ⟨iv, hi⟩ : ∃ iv, iv = highId f ls p := ⟨_, rfl⟩
  rw [← hh, ← hi]
  have HH := Lib.hid hh
  have HI := Lib.hid hi
  clear hh hi
  have d0 := Joins.cell_of_block q14 0
  have d1 := Joins.cell_of_block q14 1
  have f0 := Joins.unfrozen_of_block q14 0
  have f1 := Joins.unfrozen_of_block q14 1
  have zq := size_of_block q14
  have B5 := below_then (below_set (i := 1) (v := .int .i64 iv) (below_set (i := 0) (v := .int .i64 hv) B4 (Nat.le_succ w.heap.size)) (Nat.le_succ w.heap.size)) (below_alloc _ (.cells #[.int .i64 hv, .int .i64 iv] 140))
  have HP := Lib.hid ((Below.heap_alloc ((W4.setCell ⟨w.heap.size + 1, 0, none⟩ (.int .i64 hv)).setCell ⟨w.heap.size + 1, 1, none⟩ (.int .i64 iv)) (.cells #[.int .i64 hv, .int .i64 iv] 140) (w.heap.size + 1) (by simp; exact zq)).trans (put2b (.int .i64 hv) (.int .i64 iv) q14))
  go_wp2_with fail
  refine bodyPost_ret (v := .agg #[.int .i64 hv, .int .i64 iv]) ?_ rfl ⟨by rw [HH.out, HI.out], B5⟩
  have e0 := Joins.cell_of_block HP.out 0
  have e1 := Joins.cell_of_block HP.out 1
  simp [results, Tryz.results123, go_sem, e0, e1]
set_option maxHeartbeats 4000000 in
theorem bounds_c (f : Fi) (S ls : List Lk) (gf : Nat) (lb : Array Value) (p : Spt) (w : World) (h : SOk f S ls) (hp : spotB p = true) (hG : Gives Tryz.prog w.heap.size 0 fireU (.func (.func gf) #[] lb) encLk S w) :
    Calls Tryz.prog 78 #[siV f (.func (.func gf) #[] lb), sV p] w fun e w' => e = .returned (bndV (bndI f ls p)) ∧ Below w.heap.size w w' := by
  obtain ⟨q0, q1, q2, qs, qb⟩ := three_new w (.cells #[.int .i64 f.rise, .int .i64 f.fall, .int .i64 f.up, .int .i64 f.down, .func (.func gf) #[] lb] 114) (.cells #[.int .i64 p.foot, .int .i64 p.hour] 26) (.cells #[.int .i64 0, .int .i64 0, .int .i64 0, .int .i64 0] 56)
  unfold siV sV
  go_enter Tryz.func78, Tryz.ntmps78
  go_wp2_with fail
  have QS := Lib.hid qs
  clear qs
  generalize ((w.alloc _).alloc _).alloc _ = W3 at q0 q1 q2 QS qb ⊢
  refine wp_region_loose [0, 2, 4, 6] [1, 3, 5, 7] [8, 9] [] [10, 11] [some 5, some 6] [.cells #[.int .i64 0, .int .i64 0] 140, .cells #[.int .i64 0, .int .i64 0] 140] (by kernel_rfl) (by kernel_rfl) (by intro c a d v w h; cases d <;> exact h) (by intro c a d v w h; cases d <;> exact h) rfl ?_ ?_
  · intro r i hri
    match r, hri with
    | 0, hri => cases hri; exact ⟨_, _, rfl, rfl, rfl, rfl, fun a u => by simp [execOp, go_sem, ptrV]⟩
    | 1, hri => cases hri; exact ⟨_, _, rfl, rfl, rfl, rfl, fun a u => by simp [execOp, go_sem, ptrV]⟩
  · intro u hu
    replace q0 := (hu.block _ (size_of_block q0)).trans q0
    replace q1 := (hu.block _ (size_of_block q1)).trans q1
    replace q2 := (hu.block _ (size_of_block q2)).trans q2
    replace qb := below_then qb hu
    have z0 := size_of_block q0
    have z1 := size_of_block q1
    have s0 := Joins.cell_of_block q0 0
    have s1 := Joins.cell_of_block q0 1
    have s2 := Joins.cell_of_block q0 2
    have s3 := Joins.cell_of_block q0 3
    have s4 := Joins.cell_of_block q0 4
    have p0 := Joins.cell_of_block q1 0
    have p1 := Joins.cell_of_block q1 1
    have hcg : ∀ (g : Gr u) b o, b < u.heap.size → g.val.cell? ⟨b, o, none⟩ = u.cell? ⟨b, o, none⟩ := fun g b o h => (bcell g.b).1 b o h
    simp only [pick, List.filterMap_cons, List.filterMap_nil, List.getElem?_toArray, List.getElem?_cons_succ, List.getElem?_cons_zero]
    iterate 4 (refine wpRel_step (fun K hK => ?_); go_simp; refine hK _ ?_; clear hK K)
    refine wpRel_nil fun W4 hb4 => ?_
    clear hcg s0 s1 s2 s3 s4 p0 p1
    have B4 := below_then qb hb4
    have g4 := (hG.later B4).more B4.size
    have hL := fun W => low_c f gf lb W
    have hH' := fun W => high_c f gf lb W
    have hL1 := fun Bs W a b => low1_c f S ls gf lb p Bs W h hp a b
    have hH1 := fun Bs W a b => high1_c f S ls gf lb p Bs W h hp a b
    unfold siV at hL hH'
    unfold sV at hL1 hH1
    refine ⟨_, rfl, rfl, ?_⟩
    go_simp
    refine (hL W4).mono ?_
    rintro e w5 ⟨rfl, rfl⟩
    refine ⟨below_alloc _ _, fun u5 hu5 => ?_⟩
    have y5 := (hu5.block _ (by simp)).trans (heap_alloc_new W4 (.cells #[.int .i64 f.rise, .int .i64 f.fall, .int .i64 f.up, .int .i64 f.down, .func (.func gf) #[] lb] 114))
    have B5 := below_then B4 (below_then (below_alloc W4 _) hu5)
    have g5 := (hG.later B5).more B5.size
    refine ⟨_, rfl, rfl, ?_⟩
    go_simp
    refine (hL1 _ u5 y5 g5).mono ?_
    rintro e w6 ⟨rfl, hb6⟩
    refine ⟨hb6, fun u6 hu6 => ?_⟩
    have B6 := below_then B5 (below_then hb6 hu6)
    refine ⟨_, rfl, rfl, ?_⟩
    go_simp
    refine (hH' u6).mono ?_
    rintro e w7 ⟨rfl, rfl⟩
    refine ⟨below_alloc _ _, fun u7 hu7 => ?_⟩
    have y7 := (hu7.block _ (by simp)).trans (heap_alloc_new u6 (.cells #[.int .i64 f.rise, .int .i64 f.fall, .int .i64 f.up, .int .i64 f.down, .func (.func gf) #[] lb] 114))
    have B7 := below_then B6 (below_then (below_alloc u6 _) hu7)
    have g7 := (hG.later B7).more B7.size
    refine ⟨_, rfl, rfl, ?_⟩
    go_simp
    refine (hH1 _ u7 y7 g7).mono ?_
    rintro e w8 ⟨rfl, hb8⟩
    refine ⟨hb8, fun u8 hu8 => ?_⟩
    have B8 := below_then B7 (below_then hb8 hu8)
    have Q2 := ((below_then hb4 (below_then (below_then (below_alloc W4 _) hu5) (below_then hb6 (below_then hu6 (below_then (below_then (below_alloc u6 _) hu7) (below_then hb8 hu8)))))).block _ (size_of_block q2)).trans q2
    clear y5 g5 y7 g7 B7 B6 B5 hu7 hu6 hb6 hu5 hb8 hu8 hL hL1 hH' hH1 g4 B4 hb4 q0 q1 q2
    intro ks hk hall hH
    obtain ⟨k1, k2, rfl⟩ : ∃ k1 k2, ks = [some k1, some k2] := by
      match ks, hk with
      | [none, _], _ => exact absurd rfl (hall 0)
      | [some k1, none], _ => exact absurd rfl (hall 1)
      | [some k1, some k2], _ => exact ⟨k1, k2, rfl⟩
    obtain ⟨o1, ge1, lt1⟩ := hH.obj 0 k1 rfl
    obtain ⟨o2, ge2, lt2⟩ := hH.obj 1 k2 rfl
    have hne : k1 ≠ k2 := fun e => by subst e; have := hH.inj 0 1 k1 rfl rfl; omega
    rw [show ([Obj.cells #[.int .i64 0, .int .i64 0] 140, .cells #[.int .i64 0, .int .i64 0] 140])[0]? = some (.cells #[.int .i64 0, .int .i64 0] 140) from rfl] at o1
    rw [show ([Obj.cells #[.int .i64 0, .int .i64 0] 140, .cells #[.int .i64 0, .int .i64 0] 140])[1]? = some (.cells #[.int .i64 0, .int .i64 0] 140) from rfl] at o2
    rw [QS.out] at ge1 ge2
    clear hH hall hk
    obtain ⟨lo, hlo⟩ : ∃ x, x = endLo f ls p := ⟨_, rfl⟩
    obtain ⟨hi, hhi⟩ : ∃ x, x = endHi f ls p := ⟨_, rfl⟩
    obtain ⟨il, hil⟩ : ∃ x, x = lowId f ls p := ⟨_, rfl⟩
    obtain ⟨ih, hih⟩ : ∃ x, x = highId f ls p := ⟨_, rfl⟩
    rw [← hlo, ← hhi, ← hil, ← hih]
    have HR : Hid (bndI f ls p = ⟨lo, hi, il, ih⟩) := by show bndI f ls p = _; rw [hlo, hhi, hil, hih]; rfl
    clear hlo hhi hil hih
    have zk2 := size_of_block Q2
    have hk1 : k1 ≠ w.heap.size + 1 + 1 := by omega
    have hk2 : k2 ≠ w.heap.size + 1 + 1 := by omega
    show wpList _ _ _ _ _ _
    simp only [deco, ptrV]
    refine wpList_store_rowTo rfl 140 _ _ rfl rfl k1 #[.int .i64 lo, .int .i64 il] rfl rfl 140 _ o1 (by kernel_rfl) rfl (by kernel_rfl) ?_
    have r1 := setRow_heap u8 k1 _ #[.int .i64 lo, .int .i64 il] _ _ o1
    have r2 := (setRow_other u8 k1 k2 #[.int .i64 lo, .int .i64 il] (Ne.symm hne)).trans o2
    have r3 := (setRow_other u8 k1 (w.heap.size + 1 + 1) #[.int .i64 lo, .int .i64 il] (Ne.symm hk1)).trans Q2
    have B9 := below_setRow B8 (show w.heap.size ≤ k1 by omega) #[.int .i64 lo, .int .i64 il]
    generalize u8.setRow k1 #[.int .i64 lo, .int .i64 il] = u9 at r1 r2 r3 B9 ⊢
    refine wpList_store_rowTo rfl 140 _ _ rfl rfl k2 #[.int .i64 hi, .int .i64 ih] rfl rfl 140 _ r2 (by kernel_rfl) rfl (by kernel_rfl) ?_
    replace r1 := (setRow_other u9 k2 k1 #[.int .i64 hi, .int .i64 ih] hne).trans r1
    replace r3 := (setRow_other u9 k2 (w.heap.size + 1 + 1) #[.int .i64 hi, .int .i64 ih] (Ne.symm hk2)).trans r3
    replace B9 := below_setRow B9 (show w.heap.size ≤ k2 by omega) #[.int .i64 hi, .int .i64 ih]
    replace r2 := setRow_heap u9 k2 _ #[.int .i64 hi, .int .i64 ih] _ _ r2
    generalize u9.setRow k2 #[.int .i64 hi, .int .i64 ih] = u10 at r1 r2 r3 B9 ⊢
    have c10 := Joins.cell_of_block r1 0
    have c11 := Joins.cell_of_block r1 1
    have c20 := Joins.cell_of_block r2 0
    have c21 := Joins.cell_of_block r2 1
    have HP := Lib.hid (fun j : Nat => cell_setRow_same u10 (w.heap.size + 1 + 1) j _ #[.int .i64 lo, .int .i64 hi, .int .i64 il, .int .i64 ih] _ _ r3)
    clear o1 o2 Q2 B8 hp hG h
    go_wp2_with (refine wpList_store_rowTo rfl 56 _ _ rfl rfl (w.heap.size + 1 + 1) #[.int .i64 lo, .int .i64 hi, .int .i64 il, .int .i64 ih] rfl rfl 56 _ r3 (by kernel_rfl) rfl (by kernel_rfl) ?_)
    refine bodyPost_ret (v := .agg #[.int .i64 lo, .int .i64 hi, .int .i64 il, .int .i64 ih]) ?_ rfl ⟨by rw [HR.out], below_setRow B9 (by omega) _⟩
    simp [results, Tryz.results78, go_sem, HP.out]
end Go.Proofs.YtjpoacffnpgjdaaGreat
/- The first of some spans: by the program (firstE_c of XFProgH at spans). -/
namespace Go.Proofs.YtjpoacffnpgjdaaGreat
open Go Go.RowKit Go.Shelf
attribute [local go_sem] Oper.semAt_some

/-- Which of two of some things stands ahead, told by a closure that may read what w holds. -/
def AheadAt (P : Program) (v : Value) (ahead : Int × Int → Int × Int → Bool) (xs : List (Int × Int)) (w : World) : Prop :=
  ∃ (gf : Nat) (lb : Array Value), v = .func (.func gf) #[] lb ∧ (∀ args w, (callFunc gf args).run P w = .ok (.enter gf args) w) ∧
    ∀ x ∈ xs, ∀ y ∈ xs, ∀ (W : World), Below w.heap.size w W → Calls P gf (#[.agg #[.int .i64 x.1, .int .i64 x.2], .agg #[.int .i64 y.1, .int .i64 y.2]] ++ lb) W fun e W' => e = .returned (.bool (ahead x y)) ∧ Below W.heap.size W W'
theorem firstL_mem {α : Type} {ahead : α → α → Bool} : ∀ {l : List α} {b : α}, firstL ahead l = some b → b ∈ l := by
  intro l b hb
  refine snoc_ind (M := fun l => ∀ b, firstL ahead l = some b → b ∈ l) ?_ ?_ l b hb
  · intro b h; simp [firstL] at h
  · intro l x ih b h
    rw [firstL_snoc] at h
    cases hl : firstL ahead l with
    | none => rw [hl] at h; simp at h; subst h; simp
    | some c =>
      rw [hl] at h
      dsimp only at h
      split at h
      · simp at h; subst h; simp
      · simp at h; subst h; exact List.mem_append_left _ (ih _ hl)
set_option maxRecDepth 100000 in
set_option maxHeartbeats 2000000 in
theorem firstS_c (things av : Value) (ahead : Int × Int → Int × Int → Bool) (xs : List (Int × Int)) (w : World) (hG : Gives Tryz.prog w.heap.size 0 fireU things encE xs w) (hA : AheadAt Tryz.prog av ahead xs w) :
    Calls Tryz.prog 127 #[things, av] w fun e w' => e = .returned (.tuple #[.agg #[.int .i64 (bestP (firstL ahead xs)).1, .int .i64 (bestP (firstL ahead xs)).2], .bool (firstL ahead xs).isSome]) ∧ Below w.heap.size w w' := by
  obtain ⟨gf, lb, rfl, -⟩ : ∃ gf lb, things = .func (.func gf) #[] lb ∧ True := by obtain ⟨gf, lb, h, _⟩ := hG; exact ⟨gf, lb, h, trivial⟩
  obtain ⟨ga, la, rfl, ea, hT⟩ := hA
  obtain ⟨q0, q1, q2, q3, qs, qb⟩ := four_new w (.cells #[.func (.func ga) #[] la] 183) (.cells #[.int .i64 0, .int .i64 0] 54) (.cells #[.int .i64 0, .int .i64 0] 54) (.cells #[.bool false] 4)
  (refine (callsIn_wide (n := 9)).1 (callsIn_of_wp_marks Tryz.func127 rfl trivial ?_ rfl); simp only [Tryz.ntmps127, List.size_toArray, List.length_cons, List.length_nil, Nat.reduceAdd, Nat.reduceSub, Array.replicate_succ, Array.replicate_zero, List.push_toArray, List.append_toArray, List.nil_append, List.cons_append])
  gi_wp2_with fail
  have QS := Lib.hid qs
  generalize (((w.alloc _).alloc _).alloc _).alloc _ = W0 at q0 q1 q2 q3 qs QS qb ⊢
  refine wpIn_over (U := fireU) (n₀ := w.heap.size) (B := 0) (hG.later qb) rfl (fun _ => rfl) (by omega)
    (fun pre W' => ((W'.heap[w.heap.size]? = some (.cells #[.func (.func ga) #[] la] 183) ∧ W'.heap[w.heap.size + 1]? = some (.cells #[.int .i64 0, .int .i64 0] 54)) ∧ W'.heap[w.heap.size + 1 + 1]? = some (.cells #[.int .i64 (bestP (firstL ahead pre)).1, .int .i64 (bestP (firstL ahead pre)).2] 54) ∧ W'.heap[w.heap.size + 1 + 1 + 1]? = some (.cells #[.bool (firstL ahead pre).isSome] 4)) ∧ Below w.heap.size w W')
    (fun _ _ _ => False)
    ((((own_cells _ _ _ fun _ => rfl).and (own_cells _ _ _ fun _ => rfl)).and ((own_cells _ _ _ fun _ => rfl).and (own_cells _ _ _ fun _ => rfl))).and (ownFrom_below (Nat.le_refl _) (by omega)))
    (fun _ _ _ _ _ hs _ _ => hs) ⟨⟨⟨q0, q1⟩, q2, q3⟩, qb⟩
    (fun x a' W' => ∃ Bx, w.heap.size + 1 + 1 + 1 + 1 ≤ Bx ∧ W'.heap[Bx]? = some (.cells #[.int .i64 x.1, .int .i64 x.2] 54) ∧ a' = { tmps := #[.func (.func gf) #[] lb, .func (.func ga) #[] la, undef, .pointer (some ⟨w.heap.size, 0, none⟩), .pointer (some ⟨w.heap.size + 1, 0, none⟩), .bool false, .pointer (some ⟨w.heap.size + 1 + 1, 0, none⟩), .pointer (some ⟨w.heap.size + 1 + 1 + 1, 0, none⟩), .pointer (some ⟨Bx, 0, none⟩), .func (.func gf) #[] lb, .agg #[.int .i64 x.1, .int .i64 x.2], undef, undef, undef, undef, undef, undef, undef, undef, undef, undef, undef], defers := [] })
    (fun x a' s X Y row hs hg hrow => by
      obtain ⟨Bx, h1, h2, h3⟩ := hs
      exact ⟨Bx, h1, own_cells (β := Unit) W0.heap.size Bx (fun _ => .cells #[.int .i64 x.1, .int .i64 x.2] 54) (fun _ => rfl) s X Y row h2 hg hrow, h3⟩) ?assign ?body ?done ?stop
  case assign =>
    rintro l pre x W' K hl ⟨⟨⟨i0, i1⟩, i2, i3⟩, i4⟩ hp hK
    unfold encE
    gi_wp2
    have ha := below_alloc W' (.cells #[.int .i64 x.1, .int .i64 x.2] 54)
    have hz := size_of_block i3
    have hsz := i4.size
    refine hK _ _ (keeps_of_below ha) (Kp.of_below ha (by omega)) ⟨⟨⟨(ha.block _ (size_of_block i0)).trans i0, (ha.block _ (size_of_block i1)).trans i1⟩, (ha.block _ (size_of_block i2)).trans i2, (ha.block _ hz).trans i3⟩, below_then i4 ha⟩ ⟨W'.heap.size, by omega, heap_alloc_new _ _, rfl⟩
  case done =>
    rintro D W' hD ⟨⟨⟨i0, i1⟩, i2, i3⟩, i4⟩ hK
    obtain ⟨b, hb⟩ : ∃ b, b = bestP (firstL ahead xs) := ⟨_, rfl⟩
    obtain ⟨fd, hfd⟩ : ∃ fd, fd = (firstL ahead xs).isSome := ⟨_, rfl⟩
    rw [← hb] at i2
    rw [← hfd] at i3
    have z1 := size_of_block i1
    have c2 := Joins.cell_of_block i2 0
    have c2' := Joins.cell_of_block i2 1
    have c3 := Joins.cell_of_block i3 0
    have f1 := Joins.unfrozen_of_block i1 0
    have f1' := Joins.unfrozen_of_block i1 1
    have c1 := Joins.cell_of_block i1 0
    have c1' := Joins.cell_of_block i1 1
    have HB := Lib.hid hb
    have HFD := Lib.hid hfd
    clear hb hfd
    gi_wp2_with fail
    gi_region
    have hne : D ≠ w.heap.size + 1 := by omega
    have hK2 : ((W'.setCell ⟨w.heap.size + 1, 0, none⟩ (.int .i64 b.1)).setCell ⟨w.heap.size + 1, 1, none⟩ (.int .i64 b.2)).drew.heap[D]? = some (.deferred (some [])) := ((Below.heap_setCell _ ⟨w.heap.size + 1, 1, none⟩ _ D hne).trans (Below.heap_setCell _ ⟨w.heap.size + 1, 0, none⟩ _ D hne)).trans hK
    have B2 : Below w.heap.size w ((W'.setCell ⟨w.heap.size + 1, 0, none⟩ (.int .i64 b.1)).setCell ⟨w.heap.size + 1, 1, none⟩ (.int .i64 b.2)).drew := (below_set (below_set i4 (by omega)) (by omega)).drew
    have r1 : ((W'.setCell ⟨w.heap.size + 1, 0, none⟩ (.int .i64 b.1)).setCell ⟨w.heap.size + 1, 1, none⟩ (.int .i64 b.2)).drew.heap[w.heap.size + 1]? = some (.cells #[.int .i64 b.1, .int .i64 b.2] 54) := put2b (.int .i64 b.1) (.int .i64 b.2) i1
    generalize ((W'.setCell ⟨w.heap.size + 1, 0, none⟩ (.int .i64 b.1)).setCell ⟨w.heap.size + 1, 1, none⟩ (.int .i64 b.2)).drew = W2 at hK2 B2 r1 ⊢
    gi_wp2
    refine ⟨by simp, .inl ⟨_, _, rfl, run_takeDeferred hK2, ?_⟩⟩
    have r2 := (World.putObj_heap_other (w := W2) (r := D) (o := .deferred none) (Ne.symm hne)).trans r1
    have e0 := Joins.cell_of_block r2 0
    have e1 := Joins.cell_of_block r2 1
    refine ⟨.tuple #[.agg #[.int .i64 b.1, .int .i64 b.2], .bool fd], ?_, by rw [HB.out, HFD.out], B2.trans (belowK_b (w := w) (Nat.le_refl _) W2 D _ _ (by omega) hK2 rfl rfl)⟩
    simp [results, Tryz.results127, go_sem, e0, e1]
  case stop =>
    intro D c pre W' _ _ h _
    exact h.elim
  case body =>
    rintro l pre x a' W' hl hrc ⟨⟨⟨i0, i1⟩, i2, i3⟩, i4⟩ ⟨Bx, hBx, xB, rfl⟩ hp
    have hw' := i4.size
    have z0 := size_of_block i0
    have z1 := size_of_block i1
    have z2 := size_of_block i2
    have z3 := size_of_block i3
    have zx := size_of_block xB
    have c0 := Joins.cell_of_block i0 0
    have c2 := Joins.cell_of_block i2 0
    have c2' := Joins.cell_of_block i2 1
    have c3 := Joins.cell_of_block i3 0
    have x0 := Joins.cell_of_block xB 0
    have x1 := Joins.cell_of_block xB 1
    have HN := Lib.hid (firstL_snoc ahead pre x)
    cases hfst : firstL ahead pre with
    | none =>
      rw [hfst] at c3 c2 c2' i2 i3
      have f2 := Joins.unfrozen_of_block i2 0
      have f2' := Joins.unfrozen_of_block i2 1
      have f3 := Joins.unfrozen_of_block i3 0
      have HF := Lib.hid hfst
      clear hfst
      simp only [Option.isSome_none] at c3 i3
      simp only [bestP] at c2 c2' i2
      have hr : firstL ahead (pre ++ [x]) = some x := by rw [HN.out, HF.out]
      have HR := Lib.hid hr
      clear hr
      gi_wp2_with fail
      refine ⟨fun _ h => (by cases h), ?_⟩
      gi_wp2_with fail
      show ownPostG _ _ _ _ _ _ _ _ _
      obtain ⟨k1, k2, k3, k4⟩ := first_put (B := W0.heap.size) (.int .i64 x.1) (.int .i64 x.2) (.bool true) i0 i1 i2 i3 i4 (by omega) (by omega) (by omega) (by omega) (by omega) (by omega) (by omega) (U := fireU) (by simp) (by simp)
      exact ⟨k1, k2, ⟨k3.1, by rw [HR.out]; exact k3.2⟩, k4⟩
    | some b =>
      rw [hfst] at c3 c2 c2' i2 i3
      have f2 := Joins.unfrozen_of_block i2 0
      have f2' := Joins.unfrozen_of_block i2 1
      have f3 := Joins.unfrozen_of_block i3 0
      have HF := Lib.hid hfst
      clear hfst
      simp only [Option.isSome_some] at c3 i3
      simp only [bestP] at c2 c2' i2
      have hT2 := hT x (hp.subset (by simp)) b (hp.subset (List.mem_append_left _ (firstL_mem HF.out))) W' i4
      cases hab : ahead x b with
      | true =>
        rw [hab] at hT2
        have hr : firstL ahead (pre ++ [x]) = some x := by rw [HN.out, HF.out]; simp [hab]
        have HR := Lib.hid hr
        clear hr
        gi_wp2_with fail
        refine ⟨trivial, calls_any (r := some l) (hT2.mono ?_)⟩
        rintro e W3 ⟨rfl, hb3⟩
        have j0 := (hb3.block _ z0).trans i0
        have j1 := (hb3.block _ z1).trans i1
        have j2 := (hb3.block _ z2).trans i2
        have j3 := (hb3.block _ z3).trans i3
        have jx := (hb3.block _ zx).trans xB
        have j4 := below_then i4 hb3
        have x0 := Joins.cell_of_block jx 0
        have x1 := Joins.cell_of_block jx 1
        have f2 := Joins.unfrozen_of_block j2 0
        have f2' := Joins.unfrozen_of_block j2 1
        have f3 := Joins.unfrozen_of_block j3 0
        have c2 := Joins.cell_of_block j2 0
        have c2' := Joins.cell_of_block j2 1
        have c3 := Joins.cell_of_block j3 0
        gi_wp2_with fail
        show ownPostG _ _ _ _ _ _ _ _ _
        obtain ⟨k1, k2, k3, k4⟩ := first_put (B := W0.heap.size) (.int .i64 x.1) (.int .i64 x.2) (.bool true) j0 j1 j2 j3 j4 (by omega) (by omega) (by omega) (by omega) (by omega) (by omega) (by omega) (U := fireU) (by simp) (by simp)
        exact ⟨(keeps_of_below hb3).trans k1, (Kp.of_below hb3 (by omega)).trans k2, ⟨k3.1, by rw [HR.out]; exact k3.2⟩, k4⟩
      | false =>
        rw [hab] at hT2
        have hr : firstL ahead (pre ++ [x]) = some b := by rw [HN.out, HF.out]; simp [hab]
        have HR := Lib.hid hr
        clear hr
        gi_wp2_with fail
        refine ⟨trivial, calls_any (r := some l) (hT2.mono ?_)⟩
        rintro e W3 ⟨rfl, hb3⟩
        have j0 := (hb3.block _ z0).trans i0
        have j1 := (hb3.block _ z1).trans i1
        have j2 := (hb3.block _ z2).trans i2
        have j3 := (hb3.block _ z3).trans i3
        have j4 := below_then i4 hb3
        gi_wp2_with fail
        show ownPostG _ _ _ _ _ _ _ _ _
        exact ⟨keeps_of_below hb3, Kp.of_below hb3 (by omega), ⟨⟨⟨j0, j1⟩, by rw [HR.out]; exact ⟨j2, j3⟩⟩, j4⟩⟩
end Go.Proofs.YtjpoacffnpgjdaaGreat
/- An iterator over the spans of a slice: by the program (valuesLk of XFProgD at spans). -/
namespace Go.Proofs.YtjpoacffnpgjdaaGreat
open Go Go.RowKit Go.Shelf
attribute [local go_sem] Oper.semAt_some
def pairC (x : Int × Int) : List Value := [.int .i64 x.1, .int .i64 x.2]
theorem pairs_open {w : World} {B : Nat} {v : Value} {l : List (Int × Int)} (h : Sl pairC 2 w B v l) :
    ∃ (A : Option Addr) (cap : Nat), v = .slice A l.length cap ∧ l.length ≤ cap ∧ l.length ≤ 140737488355328 ∧
      ∀ k, k < l.length → ∃ b off x, A = some ⟨b, off, none⟩ ∧ b < B ∧ l[k]? = some x ∧ w.cell? ⟨b, off + k * 2, none⟩ = some (.int .i64 x.1) ∧ w.cell? ⟨b, off + k * 2 + 1, none⟩ = some (.int .i64 x.2) := by
  obtain ⟨A, cap, e, h1, h2, h3⟩ := h
  refine ⟨A, cap, e, h1, h2, fun k hk => ?_⟩
  obtain ⟨b, off, e2, hb, hc⟩ := h3 (by omega)
  have hx := List.getElem?_eq_getElem hk
  exact ⟨b, off, l[k], e2, hb, hx, hc k _ hx 0 _ rfl, hc k _ hx 1 _ rfl⟩
set_option maxRecDepth 100000 in
set_option maxHeartbeats 2000000 in
theorem valuesSp1_c (l Bs n₀ B : Nat) (U : List TypeId) (v : Value) (xs : List (Int × Int)) (J Jx : List (Int × Int) → World → Prop) (W : World) (hv : Sl pairC 2 W n₀ v xs) (hn : n₀ ≤ W.heap.size) (oJ : OwnFrom W.heap.size J)
    (hY : ∀ pre x W1, J pre W1 → pre ++ [x] <+: xs → YieldAt Fence.wide 0 Tryz.prog l (encE x) W1 fun e W' =>
        (e = .returned (.bool true) ∧ J (pre ++ [x]) W' ∧ Kp n₀ B U W1 W' ∧ KeepsFrom W.heap.size W1 W') ∨ (e = .returned (.bool false) ∧ Jx (pre ++ [x]) W' ∧ KeepsFrom W.heap.size W1 W'))
    (h0 : W.heap[Bs]? = some (.cells #[v] 80)) (hJ : J [] W) :
    Calls Tryz.prog 138 (#[.func (.yield l) #[] #[], .pointer (some ⟨Bs, 0, none⟩)]) W fun e W' => (∃ u, e = .returned u) ∧ (J xs W' ∨ ∃ pre, pre <+: xs ∧ Jx pre W') := by
  obtain ⟨A, cap, rfl, hcap, hlen, hat⟩ := pairs_open hv
  have H := Lib.hid hat
  clear hat hv
  have c00 := Joins.cell_of_block h0 0
  have hz := size_of_block h0
  (refine (callsIn_wide (n := 9)).1 (callsIn_of_wp Tryz.func138 rfl trivial ?_ rfl); simp only [Tryz.ntmps138, List.size_toArray, List.length_cons, List.length_nil, Nat.reduceAdd, Nat.reduceSub, Array.replicate_succ, Array.replicate_zero, List.push_toArray, List.append_toArray, List.nil_append, List.cons_append])
  gi_wp2
  gi_loopw [7] (fun i wr => ∃ j : Nat, i = .int .i64 j ∧ j ≤ xs.length ∧ J (xs.take j) wr ∧ Hid (Below n₀ W wr ∧ W.heap.size ≤ wr.heap.size)) (fun i _ => xs.length - (intOf i).toNat)
  case atStart => exact ⟨0, rfl, by omega, by simpa using hJ, Below.refl _ _, Nat.le_refl _⟩
  case round =>
    obtain ⟨j, rfl, hj, hJs, hbl⟩ := hrel
    obtain ⟨hbw, hsz⟩ := hbl.out
    by_cases hlt : j < xs.length
    · obtain ⟨b3, off3, x, rfl, hb3, hx, d0, d1⟩ := H.out j hlt
      have d0 := (hbw.cell (p := ⟨b3, off3 + j * 2, none⟩) hb3).trans d0
      have d1 := (hbw.cell (p := ⟨b3, off3 + j * 2 + 1, none⟩) hb3).trans d1
      have hz3 : b3 < wr.heap.size := by omega
      have htk : Hid (xs.take (j + 1) = xs.take j ++ [x]) := by
        show _ = _
        rw [List.take_add_one, hx]; rfl
      have hp : xs.take j ++ [x] <+: xs := by rw [← htk.out]; exact List.take_prefix _ _
      obtain ⟨fn, tmps, assign, body, hy, hR⟩ := hY (xs.take j) x (wr.alloc (.cells #[.int .i64 x.1, .int .i64 x.2] 54)) (oJ.alloc _ hJs) hp
      unfold encE at hy
      have hba : Below n₀ W (wr.alloc (.cells #[.int .i64 x.1, .int .i64 x.2] 54)) := hbw.trans ((below_alloc wr _).mono (by omega))
      have HB := Lib.hid hba
      have HX := Lib.hid hx
      have HPP := Lib.hid hp
      clear hx hp hba hbl hbw hJs
      gi_wp2
      refine (round_any hR).mono ?_
      rintro e W3 (⟨rfl, hJ3, hk3, hk4⟩ | ⟨rfl, hJx3, _⟩)
      · have hs3 : W.heap.size ≤ W3.heap.size := by have := hk4.size; simp at this; omega
        have hb4 := Lib.hid (And.intro (HB.out.trans hk3.b) hs3)
        clear hk3 hk4 hs3
        gi_wp2
        go_roundw
        case rel => exact ⟨j + 1, by go_num, by omega, by rw [htk.out]; exact hJ3, hb4⟩
        case measure => simp [intOf]; omega
      · gi_wp2
        refine bodyPost_ret (results_none rfl _ _ _) rfl ?_
        exact ⟨⟨_, rfl⟩, .inr ⟨_, HPP.out, hJx3⟩⟩
    · obtain rfl : j = xs.length := by omega
      rw [List.take_length] at hJs
      gi_wp2
      go_end0
      exact ⟨⟨_, rfl⟩, .inl hJs⟩
theorem valuesSp_g {w : World} {Bs n₀ B : Nat} {U : List TypeId} {v : Value} {xs : List (Int × Int)} (hv : Sl pairC 2 w n₀ v xs) (hn : n₀ ≤ w.heap.size) (h0 : w.heap[Bs]? = some (.cells #[v] 80)) :
    Gives Tryz.prog n₀ B U (.func (.func 138) #[] #[.pointer (some ⟨Bs, 0, none⟩)]) encE xs w := by
  refine ⟨_, _, rfl, enters_of Tryz.func138 (by kernel_rfl) rfl, fun l J Jx W hW oJ oJx hY hJ => ?_⟩
  have hs := hW.size
  exact valuesSp1_c l Bs n₀ B U v xs J Jx W (hv.below (hW.mono hn)) (by omega) oJ hY ((hW.block _ (size_of_block h0)).trans h0) hJ
theorem valuesSp_c (A : Option Addr) (n cap : Nat) (w : World) :
    Calls Tryz.prog 128 #[.slice A n cap] w fun e w' => e = .returned (.func (.func 138) #[] #[.pointer (some ⟨w.heap.size, 0, none⟩)]) ∧ w' = w.alloc (.cells #[.slice A n cap] 80) := by
  go_enter Tryz.func128, Tryz.ntmps128
  go_wp2
  go_ret
  exact ⟨rfl, rfl⟩
end Go.Proofs.YtjpoacffnpgjdaaGreat
/- The closures of burn: by the program. -/
namespace Go.Proofs.YtjpoacffnpgjdaaGreat
open Go Go.RowKit Go.Shelf
attribute [local go_sem] Oper.semAt_some Rel RelAt RelUpon

theorem burn1_c (x : Int × Int) (w : World) (h : 0 ≤ x.1 ∧ x.1 ≤ x.2 ∧ x.2 ≤ 5000) :
    Calls Tryz.prog 126 #[.agg #[.int .i64 x.1, .int .i64 x.2]] w fun e w' => e = .returned (.int .i64 (x.2 - x.1 + 1)) ∧ Below w.heap.size w w' := by
  obtain ⟨h1, h2, h3⟩ := h
  obtain ⟨a, b⟩ := x
  simp only at h1 h2 h3 ⊢
  go_enter Tryz.func126, Tryz.ntmps126
  go_wp2
  go_ret
  exact ⟨rfl, below_alloc _ _⟩
set_option maxRecDepth 100000 in
set_option maxHeartbeats 4000000 in
theorem burn2_t {xs : List (Int × Int)} {w : World} {Bf : Nat} (hx : ∀ x ∈ xs, 0 ≤ x.1 ∧ x.1 ≤ x.2 ∧ x.2 ≤ 5000) (hf : w.heap[Bf]? = some (.cells #[.func (.func 126) #[] #[]] 177)) :
    AheadAt Tryz.prog (.func (.func 129) #[] #[.pointer (some ⟨Bf, 0, none⟩)]) (fun a b => decide (b.2 - b.1 + 1 < a.2 - a.1 + 1)) xs w := by
  refine ⟨_, _, rfl, enters_of Tryz.func129 (by kernel_rfl) rfl, fun x hx1 y hy1 W hb => ?_⟩
  show Calls _ _ #[.agg #[.int .i64 x.1, .int .i64 x.2], .agg #[.int .i64 y.1, .int .i64 y.2], .pointer (some ⟨Bf, 0, none⟩)] W _
  have hC1 := fun W => burn1_c x W (hx x hx1)
  have hC2 := fun W => burn1_c y W (hx y hy1)
  have hW := (hb.block _ (size_of_block hf)).trans hf
  clear hx hx1 hy1 hb hf
  obtain ⟨q0, q1, qs, qb⟩ := two_new' W (.cells #[.int .i64 x.1, .int .i64 x.2] 54) (.cells #[.int .i64 y.1, .int .i64 y.2] 54)
  replace hW := (qb.block _ (size_of_block hW)).trans hW
  obtain ⟨a, b⟩ := x
  obtain ⟨c, d⟩ := y
  simp only at hC1 hC2 q0 q1 qs qb hW ⊢
  go_enter Tryz.func129, Tryz.ntmps129
  go_wp2_with fail
  clear qs
  generalize (W.alloc _).alloc _ = W3 at q0 q1 qb hW ⊢
  refine wp_region_looseM [] [0, 1, 3, 4] (.one 2 (.one 5 .done)) [] [6] [7] [] [] (by kernel_rfl) (by kernel_rfl) (by intro c a d v w h; cases d <;> exact h) (by intro c a d v w h; cases d <;> exact h) rfl (fun r i h => by simp at h) ?_
  simp only [pick, List.filterMap_cons, List.filterMap_nil, List.getElem?_toArray, List.getElem?_cons_succ, List.getElem?_cons_zero]
  intro u hu
  replace q0 := (hu.block _ (size_of_block q0)).trans q0
  replace q1 := (hu.block _ (size_of_block q1)).trans q1
  replace hW := (hu.block _ (size_of_block hW)).trans hW
  replace qb := below_then qb hu
  have z0 := size_of_block q0
  have z1 := size_of_block q1
  have z2 := size_of_block hW
  have s0 := Joins.cell_of_block q0 0
  have s1 := Joins.cell_of_block q0 1
  have t0 := Joins.cell_of_block q1 0
  have t1 := Joins.cell_of_block q1 1
  have u0 := Joins.cell_of_block hW 0
  have hcg : ∀ (g : Gr u) b o, b < u.heap.size → g.val.cell? ⟨b, o, none⟩ = u.cell? ⟨b, o, none⟩ := fun g b o h => (bcell g.b).1 b o h
  iterate 4 (refine wpRel_step (fun K hK => ?_); go_simp; refine hK _ ?_; clear hK K)
  refine wpRel_nil fun V0 hb0 => ?_
  clear hcg s0 s1 t0 t1 u0
  have C0 := below_then qb hb0
  refine wpTr_step rfl rfl fun K hK => ?_
  go_simp
  refine (hC1 V0).mono ?_
  rintro e X0 ⟨rfl, hx0⟩
  refine hK _ _ hx0 fun V1 hu1 => ?_
  clear hK K
  have C1 := below_then C0 (below_then hx0 hu1)
  refine wpTr_step rfl rfl fun K hK => ?_
  go_simp
  refine (hC2 V1).mono ?_
  rintro e X1 ⟨rfl, hx1⟩
  refine hK _ _ hx1 fun V2 hu2 => ?_
  clear hK K
  have C2 := below_then C1 (below_then hx1 hu2)
  show wpPure _ _ _ _
  refine wpPure_step (.bool (decide (d - c + 1 < b - a + 1))) rfl (fun u => rfl) ?_
  intro ks hk _ _
  obtain rfl : ks = [] := List.length_eq_zero_iff.1 hk
  clear hk
  show wpList _ _ _ _ _ _
  simp only [deco]
  go_wp2_with fail
  go_ret
  exact ⟨ret_bool (decide_eq_decide.2 ⟨fun h => by omega, fun h => by omega⟩), C2⟩
end Go.Proofs.YtjpoacffnpgjdaaGreat
