/- The reference for fires: look, shows, bounds (written by tools/genbounds.py). -/
import Derived.Test.YtjpoacffnpgjdaaGreatJ24
namespace Go.Proofs.YtjpoacffnpgjdaaGreat
open Go Go.RowKit Go.Shelf
attribute [local go_sem] Oper.semAt_some Rel RelAt RelUpon

def lookI (ls : List Lk) (id : Int) : Int := match ls.findIdx? (fun x => x.id == id) with
  | none => -1
  | some i => (i : Int)
theorem look_none {ls : List Lk} {id : Int} (h : ∀ x ∈ ls, x.id ≠ id) : lookI ls id = -1 ∧ ls.find? (fun x => x.id == id) = none := by
  constructor
  · unfold lookI
    rw [List.findIdx?_eq_none_iff.2 fun x hx => by simpa using h x hx]
  · rw [List.find?_eq_none]
    intro x hx; simpa using h x hx
theorem look_some {ls : List Lk} {id : Int} {i : Nat} {x : Lk} (hx : ls[i]? = some x) (he : x.id = id) (h : ∀ y ∈ ls.take i, y.id ≠ id) : lookI ls id = i ∧ ls.find? (fun x => x.id == id) = some x := by
  obtain ⟨hl, e⟩ := List.getElem?_eq_some_iff.1 hx
  have hb : ∀ (k : Nat) (hk : k < i), (ls[k]'(by omega)).id ≠ id := fun k hk => h _ (by
    rw [List.mem_take_iff_getElem]; exact ⟨k, by omega, rfl⟩)
  constructor
  · unfold lookI
    rw [List.findIdx?_eq_some_iff_getElem.2 ⟨hl, by rw [e]; simpa using he, fun k hk => by simpa using hb k hk⟩]
  · rw [List.find?_eq_some_iff_getElem]
    exact ⟨by simpa using he, i, hl, e, fun k hk => by simpa using hb k hk⟩
theorem look_spec (ls : List Lk) (id : Int) : (lookI ls id = -1 ∧ ls.find? (fun x => x.id == id) = none) ∨ ∃ (i : Nat) (x : Lk), lookI ls id = i ∧ ls[i]? = some x ∧ ls.find? (fun x => x.id == id) = some x := by
  cases h : ls.findIdx? (fun x => x.id == id) with
  | none =>
    rw [List.findIdx?_eq_none_iff] at h
    exact .inl (look_none fun x hx => by simpa using h x hx)
  | some i =>
    obtain ⟨hl, h1, h2⟩ := List.findIdx?_eq_some_iff_getElem.1 h
    have hx : ls[i]? = some ls[i] := List.getElem?_eq_getElem hl
    obtain ⟨a, b⟩ := look_some (id := id) hx (by simpa using h1) (fun y hy => by
      rw [List.mem_take_iff_getElem] at hy
      obtain ⟨k, hk, rfl⟩ := hy
      simpa using h2 k (by omega))
    exact .inr ⟨i, _, a, hx, b⟩
set_option maxRecDepth 100000 in
set_option maxHeartbeats 4000000 in
theorem look_r (f : Fi) (vl : Value) (id : Int) (w : World) (hl : Lks w w.heap.size vl f.ls) :
    Calls Tryz.prog 76 #[fiV f vl, .int .i64 id] w fun e w' => e = .returned (.int .i64 (lookI f.ls id)) ∧ Below w.heap.size w w' := by
  obtain ⟨A, cap, rfl, _, hn, hat⟩ := Lks.open_ hl
  have H := Lib.hid hat
  clear hat hl
  obtain ⟨R, hR⟩ : ∃ r, r = lookI f.ls id := ⟨_, rfl⟩
  rw [← hR]
  have HR := Lib.hid hR
  clear hR
  have q0 := heap_alloc_new w (.cells #[.int .i64 f.rise, .int .i64 f.fall, .int .i64 f.up, .int .i64 f.down, .slice A f.ls.length cap] 24)
  have qb := below_alloc w (.cells #[.int .i64 f.rise, .int .i64 f.fall, .int .i64 f.up, .int .i64 f.down, .slice A f.ls.length cap] 24)
  unfold fiV
  go_enter Tryz.func76, Tryz.ntmps76
  go_wp2_with fail
  generalize w.alloc _ = W1 at q0 qb ⊢
  go_loopw [5] (fun i wr => ∃ j : Nat, j ≤ f.ls.length ∧ i = .int .i64 j ∧ Hid (∀ x ∈ f.ls.take j, x.id ≠ id) ∧ wr.heap[w.heap.size]? = some (.cells #[.int .i64 f.rise, .int .i64 f.fall, .int .i64 f.up, .int .i64 f.down, .slice A f.ls.length cap] 24) ∧ Below w.heap.size w wr) (fun i _ => f.ls.length - (intOf i).toNat)
  case atStart => exact ⟨0, Nat.zero_le _, rfl, by intro x hx; simp at hx, q0, qb⟩
  case round =>
    clear q0 qb
    obtain ⟨j, hj, rfl, hI, bf, hbw⟩ := hrel
    have cf4 := Joins.cell_of_block bf 4
    by_cases hlt : j < f.ls.length
    · obtain ⟨b, off, x, rfl, hb, hx0, x0, -, -, -, -⟩ := H.out j hlt
      have c0 := (hbw.cell (p := ⟨b, off + j * 5, none⟩) hb).trans x0
      have hx := Lib.hid hx0
      clear hx0 x0
      by_cases hc : x.id = id
      · have d1 : (x.id == id) = true := by simpa using hc
        obtain rfl : R = j := by rw [HR.out]; exact (look_some hx.out hc hI.out).1
        clear hc
        go_wp2_with fail
        go_ret
        exact ⟨rfl, hbw⟩
      · have d1 : (x.id == id) = false := by simpa using hc
        have hI2 : Hid (∀ z ∈ f.ls.take (j + 1), z.id ≠ id) := by
          intro z hz
          rw [take_snoc hx.out, List.mem_append, List.mem_singleton] at hz
          rcases hz with hz | rfl
          · exact hI.out z hz
          · exact hc
        clear hc
        go_wp2_with fail
        go_roundw
        case rel => exact ⟨j + 1, by omega, by go_num, hI2, bf, hbw⟩
        case measure => simp [intOf]; omega
    · obtain rfl : j = f.ls.length := by omega
      obtain rfl : R = -1 := by rw [HR.out]; exact (look_none (by have := hI.out; rw [List.take_length] at this; exact this)).1
      go_wp2_with fail
      go_ret
      exact ⟨rfl, hbw⟩
set_option maxRecDepth 100000 in
set_option maxHeartbeats 4000000 in
theorem shows_rlo (f : Fi) (vl : Value) (p : Spt) (id e : Int) (w : World) (hl : Lks w w.heap.size vl f.ls) (hf : slopeB f = true) (hk : ∀ x ∈ f.ls, lookB x = true) (hp : spotB p = true) :
    Calls Tryz.prog 86 #[fiV f vl, sV p, .int .i64 id, .int .i64 e, .bool false] w fun e' w' => e' = .returned (.bool (showsB f f.ls p id e false)) ∧ Below w.heap.size w w' := by
  obtain ⟨A, cap, rfl, _, hn, hat⟩ := Lks.open_ hl
  have H := Lib.hid hat
  have HK := Lib.hid hl
  clear hat hl
  have x0 := fun W h => look_r f (.slice A f.ls.length cap) id W h
  obtain ⟨q0, q1, -, qb⟩ := two_new' w (.cells #[.int .i64 f.rise, .int .i64 f.fall, .int .i64 f.up, .int .i64 f.down, .slice A f.ls.length cap] 24) (.cells #[.int .i64 p.foot, .int .i64 p.hour] 26)
  have hk2 := HK.out.later qb
  rcases look_spec f.ls id with ⟨e1, e2⟩ | ⟨i, x, e1, hx0, e2⟩
  · have e3 : showsB f f.ls p id e false = false := by unfold showsB; rw [e2]
    rw [e3]
    rw [e1] at x0
    have X0 := Lib.hid x0
    have HK2 := Lib.hid hk2
    clear e1 e2 e3 x0 hk2 hk hf hp
    unfold fiV at X0 ⊢
    unfold sV
    go_enter Tryz.func86, Tryz.ntmps86
    go_wp2_with fail
    generalize (w.alloc _).alloc _ = W2 at q0 q1 qb HK2 ⊢
    refine (X0.out W2 HK2.out).mono ?_
    rintro e' W3 ⟨rfl, hF⟩
    have hB := below_then qb hF
    go_wp2_with fail
    go_ret
    exact ⟨rfl, hB⟩
  · have hxm := List.mem_of_getElem? hx0
    have e3 : showsB f f.ls p id e false = (lowV f p x == e) := by unfold showsB; rw [e2]; rfl
    rw [e3]
    rw [e1] at x0
    have hlk := look_iff.1 (hk x hxm)
    have hil : i < f.ls.length := (List.getElem?_eq_some_iff.1 hx0).1
    obtain ⟨b, off, x', rfl, hb, hx1, y0, y1, y2, y3, y4⟩ := H.out i hil
    obtain rfl : x = x' := by rw [hx0] at hx1; exact Option.some.inj hx1
    have hc1 := fun W => far_r f (some ⟨b, off, none⟩) f.ls.length cap p x.at_ W hf hp hlk.2.1
    have hd := far_bounds (f := f) hf hp hlk.2.1
    have hr := hlk.2.2
    unfold lowV
    unfold Lk.at_ at hc1 hd ⊢
    generalize farI f p ⟨x.foot, x.hour⟩ = d at hc1 hd ⊢
    have hwr : IntKind.i64.wrap (x.lo - d) = x.lo - d := by rw [IntKind.wrap_i64]; omega
    have dneg : decide ((i : Int) < 0) = false := decide_eq_false (by omega)
    have X0 := Lib.hid x0
    have HK2 := Lib.hid hk2
    clear e1 e2 e3 x0 hk2 hk hf hp hlk hd hr hx0 hx1 hxm
    unfold fiV at X0 hc1 ⊢
    unfold sV at hc1
    unfold sV
    go_enter Tryz.func86, Tryz.ntmps86
    go_wp2_with fail
    generalize (w.alloc _).alloc _ = W2 at q0 q1 qb HK2 ⊢
    refine (X0.out W2 HK2.out).mono ?_
    rintro e' W3 ⟨rfl, hF⟩
    have bf := (hF.block _ (size_of_block q0)).trans q0
    have bp := (hF.block _ (size_of_block q1)).trans q1
    have hbw := below_then qb hF
    clear hF q0 q1 qb HK2
    have bw : ∀ o, W3.cell? ⟨b, o, none⟩ = w.cell? ⟨b, o, none⟩ := fun o => hbw.cell (p := ⟨b, o, none⟩) hb
    have cx0 := (bw _).trans y0
    have cx1 := (bw _).trans y1
    have cx2 := (bw _).trans y2
    have cx3 := (bw _).trans y3
    have cx4 := (bw _).trans y4
    have cf4 := Joins.cell_of_block bf 4
    clear bw y0 y1 y2 y3 y4
    have hF := below_alloc W3 (.cells #[.int .i64 x.id, .int .i64 x.foot, .int .i64 x.hour, .int .i64 x.lo, .int .i64 x.hi] 90)
    have e2 := heap_alloc_new W3 (.cells #[.int .i64 x.id, .int .i64 x.foot, .int .i64 x.hour, .int .i64 x.lo, .int .i64 x.hi] 90)
    go_wp2_with fail
    clear cx0 cx1 cx2 cx3 cx4 cf4
    generalize W3.alloc (.cells #[.int .i64 x.id, .int .i64 x.foot, .int .i64 x.hour, .int .i64 x.lo, .int .i64 x.hi] 90) = W4 at hF e2 ⊢
    replace bf := (hF.block _ (size_of_block bf)).trans bf
    replace bp := (hF.block _ (size_of_block bp)).trans bp
    replace hbw := below_then hbw hF
    clear hF
    have zbf := size_of_block bf
    have zbp := size_of_block bp
    have ze2 := size_of_block e2
    have cf0 := Joins.cell_of_block bf 0
    have cf1 := Joins.cell_of_block bf 1
    have cf2 := Joins.cell_of_block bf 2
    have cf3 := Joins.cell_of_block bf 3
    have cf4 := Joins.cell_of_block bf 4
    have cp0 := Joins.cell_of_block bp 0
    have cp1 := Joins.cell_of_block bp 1
    have ce0 := Joins.cell_of_block e2 0
    have ce1 := Joins.cell_of_block e2 1
    have ce2 := Joins.cell_of_block e2 2
    have ce3 := Joins.cell_of_block e2 3
    have ce4 := Joins.cell_of_block e2 4
    refine wp_region_grown (by kernel_rfl) (by kernel_rfl) fun hcg => ?_
    repeat (go_big_quiet_step ((go_at_call 59; exact Calls.grown (hc1 _))))
    refine wpQuiet_nil ?_
    intro _ hw'
    obtain ⟨g, hw''⟩ := hw'
    subst hw''
    have B9 := below_then hbw g.b
    go_wp2_with fail
    go_ret
    exact ⟨rfl, B9⟩
set_option maxRecDepth 100000 in
set_option maxHeartbeats 4000000 in
theorem shows_rhi (f : Fi) (vl : Value) (p : Spt) (id e : Int) (w : World) (hl : Lks w w.heap.size vl f.ls) (hf : slopeB f = true) (hk : ∀ x ∈ f.ls, lookB x = true) (hp : spotB p = true) :
    Calls Tryz.prog 86 #[fiV f vl, sV p, .int .i64 id, .int .i64 e, .bool true] w fun e' w' => e' = .returned (.bool (showsB f f.ls p id e true)) ∧ Below w.heap.size w w' := by
  obtain ⟨A, cap, rfl, _, hn, hat⟩ := Lks.open_ hl
  have H := Lib.hid hat
  have HK := Lib.hid hl
  clear hat hl
  have x0 := fun W h => look_r f (.slice A f.ls.length cap) id W h
  obtain ⟨q0, q1, -, qb⟩ := two_new' w (.cells #[.int .i64 f.rise, .int .i64 f.fall, .int .i64 f.up, .int .i64 f.down, .slice A f.ls.length cap] 24) (.cells #[.int .i64 p.foot, .int .i64 p.hour] 26)
  have hk2 := HK.out.later qb
  rcases look_spec f.ls id with ⟨e1, e2⟩ | ⟨i, x, e1, hx0, e2⟩
  · have e3 : showsB f f.ls p id e true = false := by unfold showsB; rw [e2]
    rw [e3]
    rw [e1] at x0
    have X0 := Lib.hid x0
    have HK2 := Lib.hid hk2
    clear e1 e2 e3 x0 hk2 hk hf hp
    unfold fiV at X0 ⊢
    unfold sV
    go_enter Tryz.func86, Tryz.ntmps86
    go_wp2_with fail
    generalize (w.alloc _).alloc _ = W2 at q0 q1 qb HK2 ⊢
    refine (X0.out W2 HK2.out).mono ?_
    rintro e' W3 ⟨rfl, hF⟩
    have hB := below_then qb hF
    go_wp2_with fail
    go_ret
    exact ⟨rfl, hB⟩
  · have hxm := List.mem_of_getElem? hx0
    have e3 : showsB f f.ls p id e true = (highV f p x == e) := by unfold showsB; rw [e2]; rfl
    rw [e3]
    rw [e1] at x0
    have hlk := look_iff.1 (hk x hxm)
    have hil : i < f.ls.length := (List.getElem?_eq_some_iff.1 hx0).1
    obtain ⟨b, off, x', rfl, hb, hx1, y0, y1, y2, y3, y4⟩ := H.out i hil
    obtain rfl : x = x' := by rw [hx0] at hx1; exact Option.some.inj hx1
    have hc2 := fun W => far_r f (some ⟨b, off, none⟩) f.ls.length cap x.at_ p W hf hlk.2.1 hp
    have hd := far_bounds (f := f) hf hlk.2.1 hp
    have hr := hlk.2.2
    unfold highV
    unfold Lk.at_ at hc2 hd ⊢
    generalize farI f ⟨x.foot, x.hour⟩ p = d at hc2 hd ⊢
    have hwr : IntKind.i64.wrap (x.hi + d) = x.hi + d := by rw [IntKind.wrap_i64]; omega
    have dneg : decide ((i : Int) < 0) = false := decide_eq_false (by omega)
    have X0 := Lib.hid x0
    have HK2 := Lib.hid hk2
    clear e1 e2 e3 x0 hk2 hk hf hp hlk hd hr hx0 hx1 hxm
    unfold fiV at X0 hc2 ⊢
    unfold sV at hc2
    unfold sV
    go_enter Tryz.func86, Tryz.ntmps86
    go_wp2_with fail
    generalize (w.alloc _).alloc _ = W2 at q0 q1 qb HK2 ⊢
    refine (X0.out W2 HK2.out).mono ?_
    rintro e' W3 ⟨rfl, hF⟩
    have bf := (hF.block _ (size_of_block q0)).trans q0
    have bp := (hF.block _ (size_of_block q1)).trans q1
    have hbw := below_then qb hF
    clear hF q0 q1 qb HK2
    have bw : ∀ o, W3.cell? ⟨b, o, none⟩ = w.cell? ⟨b, o, none⟩ := fun o => hbw.cell (p := ⟨b, o, none⟩) hb
    have cx0 := (bw _).trans y0
    have cx1 := (bw _).trans y1
    have cx2 := (bw _).trans y2
    have cx3 := (bw _).trans y3
    have cx4 := (bw _).trans y4
    have cf4 := Joins.cell_of_block bf 4
    clear bw y0 y1 y2 y3 y4
    have hF := below_alloc W3 (.cells #[.int .i64 x.id, .int .i64 x.foot, .int .i64 x.hour, .int .i64 x.lo, .int .i64 x.hi] 90)
    have e2 := heap_alloc_new W3 (.cells #[.int .i64 x.id, .int .i64 x.foot, .int .i64 x.hour, .int .i64 x.lo, .int .i64 x.hi] 90)
    go_wp2_with fail
    clear cx0 cx1 cx2 cx3 cx4 cf4
    generalize W3.alloc (.cells #[.int .i64 x.id, .int .i64 x.foot, .int .i64 x.hour, .int .i64 x.lo, .int .i64 x.hi] 90) = W4 at hF e2 ⊢
    replace bf := (hF.block _ (size_of_block bf)).trans bf
    replace bp := (hF.block _ (size_of_block bp)).trans bp
    replace hbw := below_then hbw hF
    clear hF
    have zbf := size_of_block bf
    have zbp := size_of_block bp
    have ze2 := size_of_block e2
    have cf0 := Joins.cell_of_block bf 0
    have cf1 := Joins.cell_of_block bf 1
    have cf2 := Joins.cell_of_block bf 2
    have cf3 := Joins.cell_of_block bf 3
    have cf4 := Joins.cell_of_block bf 4
    have cp0 := Joins.cell_of_block bp 0
    have cp1 := Joins.cell_of_block bp 1
    have ce0 := Joins.cell_of_block e2 0
    have ce1 := Joins.cell_of_block e2 1
    have ce2 := Joins.cell_of_block e2 2
    have ce3 := Joins.cell_of_block e2 3
    have ce4 := Joins.cell_of_block e2 4
    refine wp_region_grown (by kernel_rfl) (by kernel_rfl) fun hcg => ?_
    repeat (go_big_quiet_step ((go_at_call 59; exact Calls.grown (hc2 _))))
    refine wpQuiet_nil ?_
    intro _ hw'
    obtain ⟨g, hw''⟩ := hw'
    subst hw''
    have B9 := below_then hbw g.b
    go_wp2_with fail
    go_ret
    exact ⟨rfl, B9⟩
theorem least_way (b : Bool) (m i : Int) : (b = false) ∨ (b = true ∧ (m == 0) = true) ∨ (b = true ∧ (m == 0) = false ∧ decide (i < m) = true) ∨ (b = true ∧ (m == 0) = false ∧ decide (i < m) = false) := by
  cases b <;> cases (m == 0) <;> cases decide (i < m) <;> simp
set_option maxRecDepth 100000 in
set_option maxHeartbeats 16000000 in
theorem bounds_r (f : Fi) (vl : Value) (p : Spt) (w : World) (hl : Lks w w.heap.size vl f.ls) (hf : slopeB f = true) (hk : ∀ x ∈ f.ls, lookB x = true) (hd : f.ls.Pairwise (fun a b => a.id ≠ b.id)) (hp : spotB p = true) :
    Calls Tryz.prog 80 #[fiV f vl, sV p] w fun e w' => e = .returned (bndV (bndI f f.ls p)) ∧ Below w.heap.size w w' := by
  obtain ⟨A, cap, rfl, _, hn, hat⟩ := Lks.open_ hl
  have H := Lib.hid hat
  have HK := Lib.hid hl
  clear hat hl
  have x0 := fun W h => ends_r f (.slice A f.ls.length cap) p W h hf hk hp
  have HS1 := Lib.hid (fun W x e (hx : x ∈ f.ls) h => show Calls Tryz.prog 86 #[fiV f (.slice A f.ls.length cap), sV p, .int .i64 x.id, .int .i64 e, .bool false] W fun e' w' => e' = .returned (.bool (lowV f p x == e)) ∧ Below W.heap.size W w' by
    have := shows_rlo f (.slice A f.ls.length cap) p x.id e W h hf hk hp
    unfold showsB at this; rw [find_id hd hx] at this; exact this)
  have HS2 := Lib.hid (fun W x e (hx : x ∈ f.ls) h => show Calls Tryz.prog 86 #[fiV f (.slice A f.ls.length cap), sV p, .int .i64 x.id, .int .i64 e, .bool true] W fun e' w' => e' = .returned (.bool (highV f p x == e)) ∧ Below W.heap.size W w' by
    have := shows_rhi f (.slice A f.ls.length cap) p x.id e W h hf hk hp
    unfold showsB at this; rw [find_id hd hx] at this; exact this)
  unfold bndI lowId highId
  clear hf hk hd hp
  generalize endLo f f.ls p = lo at x0 ⊢
  generalize endHi f f.ls p = hi at x0 ⊢
  have X0 := Lib.hid x0
  clear x0
  obtain ⟨r1, hr1⟩ : ∃ r, r = leastId (fun y => lowV f p y == lo) f.ls := ⟨_, rfl⟩
  obtain ⟨r2, hr2⟩ : ∃ r, r = leastId (fun y => highV f p y == hi) f.ls := ⟨_, rfl⟩
  rw [← hr1, ← hr2]
  have HR1 := Lib.hid hr1
  have HR2 := Lib.hid hr2
  clear hr1 hr2
  obtain ⟨q0, q1, q2, -, qb⟩ := three_new w (.cells #[.int .i64 f.rise, .int .i64 f.fall, .int .i64 f.up, .int .i64 f.down, .slice A f.ls.length cap] 24) (.cells #[.int .i64 p.foot, .int .i64 p.hour] 26) (.cells #[.int .i64 0, .int .i64 0, .int .i64 0, .int .i64 0] 56)
  have hk2 := Lib.hid (HK.out.later qb)
  unfold fiV sV at X0 HS1 HS2
  unfold fiV sV bndV
  go_enter Tryz.func80, Tryz.ntmps80
  go_wp2_with fail
  generalize ((w.alloc _).alloc _).alloc _ = W1 at q0 q1 q2 qb hk2 ⊢
  have hn1 : w.heap.size < w.heap.size + 1 := by omega
  have hn2 : w.heap.size + 1 < w.heap.size + 1 + 1 := by omega
  generalize w.heap.size + 1 + 1 = n2 at q2 hn2 ⊢
  generalize w.heap.size + 1 = n1 at q1 hn1 hn2 ⊢
  refine (X0.out W1 hk2.out).mono ?_
  rintro e W2 ⟨rfl, hF⟩
  replace q0 := (hF.block _ (size_of_block q0)).trans q0
  replace q1 := (hF.block _ (size_of_block q1)).trans q1
  have zq2 := size_of_block q2
  replace q2 := (hF.block _ (size_of_block q2)).trans q2
  replace qb := below_then qb hF
  clear hF hk2 zq2
  have hn3 := size_of_block q2
  have hF := below_alloc W2 (.cells #[.int .i64 lo, .int .i64 hi, .int .i64 0, .int .i64 0] 56)
  have q3 := heap_alloc_new W2 (.cells #[.int .i64 lo, .int .i64 hi, .int .i64 0, .int .i64 0] 56)
  go_wp2_with fail
  generalize W2.alloc (.cells #[.int .i64 lo, .int .i64 hi, .int .i64 0, .int .i64 0] 56) = W3 at hF q3 ⊢
  have hF0 := hF
  generalize W2.heap.size = n3 at q3 hn3 hF ⊢
  replace q0 := (hF.block _ (by omega)).trans q0
  replace q1 := (hF.block _ (by omega)).trans q1
  replace q2 := (hF.block _ (by omega)).trans q2
  replace qb := below_then qb hF0
  clear hF hF0
  go_loopw [6] (fun i wr => ∃ j : Nat, j ≤ f.ls.length ∧ i = .int .i64 j ∧ wr.heap[w.heap.size]? = some (.cells #[.int .i64 f.rise, .int .i64 f.fall, .int .i64 f.up, .int .i64 f.down, .slice A f.ls.length cap] 24) ∧ wr.heap[n1]? = some (.cells #[.int .i64 p.foot, .int .i64 p.hour] 26) ∧ wr.heap[n2]? = some (.cells #[.int .i64 0, .int .i64 0, .int .i64 0, .int .i64 0] 56) ∧ wr.heap[n3]? = some (.cells #[.int .i64 lo, .int .i64 hi, .int .i64 (leastId (fun y => lowV f p y == lo) (f.ls.take j)), .int .i64 (leastId (fun y => highV f p y == hi) (f.ls.take j))] 56) ∧ Below w.heap.size w wr) (fun i _ => f.ls.length - (intOf i).toNat)
  case atStart => exact ⟨0, Nat.zero_le _, rfl, q0, q1, q2, q3, qb⟩
  case round =>
    clear q0 q1 q2 q3 qb
    obtain ⟨j, hj, rfl, bf, bp, br, bs, hbw⟩ := hrel
    by_cases hlt : j < f.ls.length
    · obtain ⟨b, off, x, rfl, hb, hx0, y0, y1, y2, y3, y4⟩ := H.out j hlt
      have hxm := List.mem_of_getElem? hx0
      have t1 : Hid (leastId (fun y => lowV f p y == lo) (f.ls.take (j + 1)) = if (lowV f p x == lo) && (leastId (fun y => lowV f p y == lo) (f.ls.take j) == 0 || decide (x.id < leastId (fun y => lowV f p y == lo) (f.ls.take j))) then x.id else leastId (fun y => lowV f p y == lo) (f.ls.take j)) := by show _ = _; rw [take_snoc hx0, leastId_snoc]
      have t2 : Hid (leastId (fun y => highV f p y == hi) (f.ls.take (j + 1)) = if (highV f p x == hi) && (leastId (fun y => highV f p y == hi) (f.ls.take j) == 0 || decide (x.id < leastId (fun y => highV f p y == hi) (f.ls.take j))) then x.id else leastId (fun y => highV f p y == hi) (f.ls.take j)) := by show _ = _; rw [take_snoc hx0, leastId_snoc]
      have hs1 := fun W h => HS1.out W x lo hxm h
      have hs2 := fun W h => HS2.out W x hi hxm h
      generalize leastId (fun y => lowV f p y == lo) (f.ls.take j) = m1 at *
      generalize leastId (fun y => highV f p y == hi) (f.ls.take j) = m2 at *
      generalize (lowV f p x == lo) = b1 at hs1 t1
      generalize (highV f p x == hi) = b2 at hs2 t2
      have S1 := Lib.hid hs1
      have S2 := Lib.hid hs2
      clear hx0 hxm hs1 hs2
      have bw : ∀ o, wr.cell? ⟨b, o, none⟩ = w.cell? ⟨b, o, none⟩ := fun o => hbw.cell (p := ⟨b, o, none⟩) hb
      have cx0 := (bw _).trans y0
      have cx1 := (bw _).trans y1
      have cx2 := (bw _).trans y2
      have cx3 := (bw _).trans y3
      have cx4 := (bw _).trans y4
      have cf4 := Joins.cell_of_block bf 4
      clear bw y0 y1 y2 y3 y4
      have hF := below_alloc wr (.cells #[.int .i64 x.id, .int .i64 x.foot, .int .i64 x.hour, .int .i64 x.lo, .int .i64 x.hi] 90)
      have bl := heap_alloc_new wr (.cells #[.int .i64 x.id, .int .i64 x.foot, .int .i64 x.hour, .int .i64 x.lo, .int .i64 x.hi] 90)
      have zs := size_of_block bs
      have zr := size_of_block br
      replace bf := (hF.block _ (size_of_block bf)).trans bf
      replace bp := (hF.block _ (size_of_block bp)).trans bp
      replace br := (hF.block _ zr).trans br
      replace bs := (hF.block _ zs).trans bs
      replace hbw := below_then hbw hF
      clear hF
      have k0 := Joins.cell_of_block bf 0
      have k1 := Joins.cell_of_block bf 1
      have k2 := Joins.cell_of_block bf 2
      have k3 := Joins.cell_of_block bf 3
      have k4 := Joins.cell_of_block bf 4
      have g0 := Joins.cell_of_block bp 0
      have g1 := Joins.cell_of_block bp 1
      have l0 := Joins.cell_of_block bl 0
      have s0 := Joins.cell_of_block bs 0
      go_wp2_with fail
      clear cx0 cx1 cx2 cx3 cx4 cf4
      generalize wr.alloc (.cells #[.int .i64 x.id, .int .i64 x.foot, .int .i64 x.hour, .int .i64 x.lo, .int .i64 x.hi] 90) = W4 at bf bp br bs bl hbw k0 k1 k2 k3 k4 g0 g1 l0 s0 ⊢
      generalize wr.heap.size = nl at bl zs zr l0 ⊢
      refine (S1.out W4 (HK.out.later hbw)).mono ?_
      rintro e W5 ⟨rfl, hF⟩
      replace bf := (hF.block _ (size_of_block bf)).trans bf
      replace bp := (hF.block _ (size_of_block bp)).trans bp
      replace br := (hF.block _ (size_of_block br)).trans br
      replace bs := (hF.block _ (size_of_block bs)).trans bs
      replace bl := (hF.block _ (size_of_block bl)).trans bl
      replace hbw := below_then hbw hF
      clear hF k0 k1 k2 k3 k4 g0 g1 l0 s0
      have k0 := Joins.cell_of_block bf 0
      have k1 := Joins.cell_of_block bf 1
      have k2 := Joins.cell_of_block bf 2
      have k3 := Joins.cell_of_block bf 3
      have k4 := Joins.cell_of_block bf 4
      have g0 := Joins.cell_of_block bp 0
      have g1 := Joins.cell_of_block bp 1
      have l0 := Joins.cell_of_block bl 0
      have s1 := Joins.cell_of_block bs 1
      go_wp2_with fail
      refine (S2.out W5 (HK.out.later hbw)).mono ?_
      rintro e W6 ⟨rfl, hF⟩
      replace bf := (hF.block _ (size_of_block bf)).trans bf
      replace bp := (hF.block _ (size_of_block bp)).trans bp
      replace br := (hF.block _ (size_of_block br)).trans br
      replace bs := (hF.block _ (size_of_block bs)).trans bs
      replace bl := (hF.block _ (size_of_block bl)).trans bl
      replace hbw := below_then hbw hF
      clear hF k0 k1 k2 k3 k4 g0 g1 l0 s1
      have zf := size_of_block bf
      have hn0 := hbw.size
      rcases least_way b1 m1 x.id with rfl | ⟨rfl, z1⟩ | ⟨rfl, z1, q1⟩ | ⟨rfl, z1, q1⟩
      · have u1 : Hid (leastId (fun y => lowV f p y == lo) (f.ls.take (j + 1)) = m1) := by show _ = _; rw [t1.out]; rfl
        rcases least_way b2 m2 x.id with rfl | ⟨rfl, z2⟩ | ⟨rfl, z2, q2⟩ | ⟨rfl, z2, q2⟩
        · have u2 : Hid (leastId (fun y => highV f p y == hi) (f.ls.take (j + 1)) = m2) := by show _ = _; rw [t2.out]; rfl
          have l0 := Joins.cell_of_block bl 0
          have s2 := Joins.cell_of_block bs 2
          have f2 := Joins.unfrozen_of_block bs 2
          have s3 := Joins.cell_of_block bs 3
          have f3 := Joins.unfrozen_of_block bs 3
          go_wp2_with fail
          go_roundw
          case rel => exact ⟨j + 1, by omega, by go_num, bf, bp, br, by rw [u1.out, u2.out]; simpa using bs, hbw⟩
          case measure => simp [intOf]; omega
        · have u2 : Hid (leastId (fun y => highV f p y == hi) (f.ls.take (j + 1)) = x.id) := by show _ = _; rw [t2.out, z2]; rfl
          have l0 := Joins.cell_of_block bl 0
          have s2 := Joins.cell_of_block bs 2
          have f2 := Joins.unfrozen_of_block bs 2
          have s3 := Joins.cell_of_block bs 3
          have f3 := Joins.unfrozen_of_block bs 3
          go_wp2_with fail
          have bs' := Joins.block_setCell (i := 3) bs (.int .i64 x.id)
          have bf' := (put_other (b := n3) (i := 3) (.int .i64 x.id) (show w.heap.size ≠ n3 by omega)).trans bf
          have bp' := (put_other (b := n3) (i := 3) (.int .i64 x.id) (show n1 ≠ n3 by omega)).trans bp
          have br' := (put_other (b := n3) (i := 3) (.int .i64 x.id) (show n2 ≠ n3 by omega)).trans br
          have hbw' := below_set (i := 3) (v := .int .i64 x.id) hbw (show w.heap.size ≤ n3 by omega)
          go_roundw
          case rel => exact ⟨j + 1, by omega, by go_num, bf', bp', br', by rw [u1.out, u2.out]; simpa using bs', hbw'⟩
          case measure => simp [intOf]; omega
        · have u2 : Hid (leastId (fun y => highV f p y == hi) (f.ls.take (j + 1)) = x.id) := by show _ = _; rw [t2.out, z2, q2]; rfl
          have l0 := Joins.cell_of_block bl 0
          have s2 := Joins.cell_of_block bs 2
          have f2 := Joins.unfrozen_of_block bs 2
          have s3 := Joins.cell_of_block bs 3
          have f3 := Joins.unfrozen_of_block bs 3
          go_wp2_with fail
          have bs' := Joins.block_setCell (i := 3) bs (.int .i64 x.id)
          have bf' := (put_other (b := n3) (i := 3) (.int .i64 x.id) (show w.heap.size ≠ n3 by omega)).trans bf
          have bp' := (put_other (b := n3) (i := 3) (.int .i64 x.id) (show n1 ≠ n3 by omega)).trans bp
          have br' := (put_other (b := n3) (i := 3) (.int .i64 x.id) (show n2 ≠ n3 by omega)).trans br
          have hbw' := below_set (i := 3) (v := .int .i64 x.id) hbw (show w.heap.size ≤ n3 by omega)
          go_roundw
          case rel => exact ⟨j + 1, by omega, by go_num, bf', bp', br', by rw [u1.out, u2.out]; simpa using bs', hbw'⟩
          case measure => simp [intOf]; omega
        · have u2 : Hid (leastId (fun y => highV f p y == hi) (f.ls.take (j + 1)) = m2) := by show _ = _; rw [t2.out, z2, q2]; rfl
          have l0 := Joins.cell_of_block bl 0
          have s2 := Joins.cell_of_block bs 2
          have f2 := Joins.unfrozen_of_block bs 2
          have s3 := Joins.cell_of_block bs 3
          have f3 := Joins.unfrozen_of_block bs 3
          go_wp2_with fail
          go_roundw
          case rel => exact ⟨j + 1, by omega, by go_num, bf, bp, br, by rw [u1.out, u2.out]; simpa using bs, hbw⟩
          case measure => simp [intOf]; omega
      · have u1 : Hid (leastId (fun y => lowV f p y == lo) (f.ls.take (j + 1)) = x.id) := by show _ = _; rw [t1.out, z1]; rfl
        rcases least_way b2 m2 x.id with rfl | ⟨rfl, z2⟩ | ⟨rfl, z2, q2⟩ | ⟨rfl, z2, q2⟩
        · have u2 : Hid (leastId (fun y => highV f p y == hi) (f.ls.take (j + 1)) = m2) := by show _ = _; rw [t2.out]; rfl
          have l0 := Joins.cell_of_block bl 0
          have s2 := Joins.cell_of_block bs 2
          have f2 := Joins.unfrozen_of_block bs 2
          have s3 := Joins.cell_of_block bs 3
          have f3 := Joins.unfrozen_of_block bs 3
          have h1 := Joins.block_setCell (i := 2) bs (.int .i64 x.id)
          have v3 := Joins.cell_of_block h1 3
          have w3 := Joins.unfrozen_of_block h1 3
          have l1 := Joins.cell_of_block ((put_other (b := n3) (i := 2) (.int .i64 x.id) (show nl ≠ n3 by omega)).trans bl) 0
          go_wp2_with fail
          have bs' := Joins.block_setCell (i := 2) bs (.int .i64 x.id)
          have bf' := (put_other (b := n3) (i := 2) (.int .i64 x.id) (show w.heap.size ≠ n3 by omega)).trans bf
          have bp' := (put_other (b := n3) (i := 2) (.int .i64 x.id) (show n1 ≠ n3 by omega)).trans bp
          have br' := (put_other (b := n3) (i := 2) (.int .i64 x.id) (show n2 ≠ n3 by omega)).trans br
          have hbw' := below_set (i := 2) (v := .int .i64 x.id) hbw (show w.heap.size ≤ n3 by omega)
          go_roundw
          case rel => exact ⟨j + 1, by omega, by go_num, bf', bp', br', by rw [u1.out, u2.out]; simpa using bs', hbw'⟩
          case measure => simp [intOf]; omega
        · have u2 : Hid (leastId (fun y => highV f p y == hi) (f.ls.take (j + 1)) = x.id) := by show _ = _; rw [t2.out, z2]; rfl
          have l0 := Joins.cell_of_block bl 0
          have s2 := Joins.cell_of_block bs 2
          have f2 := Joins.unfrozen_of_block bs 2
          have s3 := Joins.cell_of_block bs 3
          have f3 := Joins.unfrozen_of_block bs 3
          have h1 := Joins.block_setCell (i := 2) bs (.int .i64 x.id)
          have v3 := Joins.cell_of_block h1 3
          have w3 := Joins.unfrozen_of_block h1 3
          have l1 := Joins.cell_of_block ((put_other (b := n3) (i := 2) (.int .i64 x.id) (show nl ≠ n3 by omega)).trans bl) 0
          go_wp2_with fail
          have bs' := Joins.block_setCell (i := 2) bs (.int .i64 x.id)
          have bf' := (put_other (b := n3) (i := 2) (.int .i64 x.id) (show w.heap.size ≠ n3 by omega)).trans bf
          have bp' := (put_other (b := n3) (i := 2) (.int .i64 x.id) (show n1 ≠ n3 by omega)).trans bp
          have br' := (put_other (b := n3) (i := 2) (.int .i64 x.id) (show n2 ≠ n3 by omega)).trans br
          have hbw' := below_set (i := 2) (v := .int .i64 x.id) hbw (show w.heap.size ≤ n3 by omega)
          have bs'' := Joins.block_setCell (i := 3) bs' (.int .i64 x.id)
          have bf'' := (put_other (b := n3) (i := 3) (.int .i64 x.id) (show w.heap.size ≠ n3 by omega)).trans bf'
          have bp'' := (put_other (b := n3) (i := 3) (.int .i64 x.id) (show n1 ≠ n3 by omega)).trans bp'
          have br'' := (put_other (b := n3) (i := 3) (.int .i64 x.id) (show n2 ≠ n3 by omega)).trans br'
          have hbw'' := below_set (i := 3) (v := .int .i64 x.id) hbw' (show w.heap.size ≤ n3 by omega)
          go_roundw
          case rel => exact ⟨j + 1, by omega, by go_num, bf'', bp'', br'', by rw [u1.out, u2.out]; simpa using bs'', hbw''⟩
          case measure => simp [intOf]; omega
        · have u2 : Hid (leastId (fun y => highV f p y == hi) (f.ls.take (j + 1)) = x.id) := by show _ = _; rw [t2.out, z2, q2]; rfl
          have l0 := Joins.cell_of_block bl 0
          have s2 := Joins.cell_of_block bs 2
          have f2 := Joins.unfrozen_of_block bs 2
          have s3 := Joins.cell_of_block bs 3
          have f3 := Joins.unfrozen_of_block bs 3
          have h1 := Joins.block_setCell (i := 2) bs (.int .i64 x.id)
          have v3 := Joins.cell_of_block h1 3
          have w3 := Joins.unfrozen_of_block h1 3
          have l1 := Joins.cell_of_block ((put_other (b := n3) (i := 2) (.int .i64 x.id) (show nl ≠ n3 by omega)).trans bl) 0
          go_wp2_with fail
          have bs' := Joins.block_setCell (i := 2) bs (.int .i64 x.id)
          have bf' := (put_other (b := n3) (i := 2) (.int .i64 x.id) (show w.heap.size ≠ n3 by omega)).trans bf
          have bp' := (put_other (b := n3) (i := 2) (.int .i64 x.id) (show n1 ≠ n3 by omega)).trans bp
          have br' := (put_other (b := n3) (i := 2) (.int .i64 x.id) (show n2 ≠ n3 by omega)).trans br
          have hbw' := below_set (i := 2) (v := .int .i64 x.id) hbw (show w.heap.size ≤ n3 by omega)
          have bs'' := Joins.block_setCell (i := 3) bs' (.int .i64 x.id)
          have bf'' := (put_other (b := n3) (i := 3) (.int .i64 x.id) (show w.heap.size ≠ n3 by omega)).trans bf'
          have bp'' := (put_other (b := n3) (i := 3) (.int .i64 x.id) (show n1 ≠ n3 by omega)).trans bp'
          have br'' := (put_other (b := n3) (i := 3) (.int .i64 x.id) (show n2 ≠ n3 by omega)).trans br'
          have hbw'' := below_set (i := 3) (v := .int .i64 x.id) hbw' (show w.heap.size ≤ n3 by omega)
          go_roundw
          case rel => exact ⟨j + 1, by omega, by go_num, bf'', bp'', br'', by rw [u1.out, u2.out]; simpa using bs'', hbw''⟩
          case measure => simp [intOf]; omega
        · have u2 : Hid (leastId (fun y => highV f p y == hi) (f.ls.take (j + 1)) = m2) := by show _ = _; rw [t2.out, z2, q2]; rfl
          have l0 := Joins.cell_of_block bl 0
          have s2 := Joins.cell_of_block bs 2
          have f2 := Joins.unfrozen_of_block bs 2
          have s3 := Joins.cell_of_block bs 3
          have f3 := Joins.unfrozen_of_block bs 3
          have h1 := Joins.block_setCell (i := 2) bs (.int .i64 x.id)
          have v3 := Joins.cell_of_block h1 3
          have w3 := Joins.unfrozen_of_block h1 3
          have l1 := Joins.cell_of_block ((put_other (b := n3) (i := 2) (.int .i64 x.id) (show nl ≠ n3 by omega)).trans bl) 0
          go_wp2_with fail
          have bs' := Joins.block_setCell (i := 2) bs (.int .i64 x.id)
          have bf' := (put_other (b := n3) (i := 2) (.int .i64 x.id) (show w.heap.size ≠ n3 by omega)).trans bf
          have bp' := (put_other (b := n3) (i := 2) (.int .i64 x.id) (show n1 ≠ n3 by omega)).trans bp
          have br' := (put_other (b := n3) (i := 2) (.int .i64 x.id) (show n2 ≠ n3 by omega)).trans br
          have hbw' := below_set (i := 2) (v := .int .i64 x.id) hbw (show w.heap.size ≤ n3 by omega)
          go_roundw
          case rel => exact ⟨j + 1, by omega, by go_num, bf', bp', br', by rw [u1.out, u2.out]; simpa using bs', hbw'⟩
          case measure => simp [intOf]; omega
      · have u1 : Hid (leastId (fun y => lowV f p y == lo) (f.ls.take (j + 1)) = x.id) := by show _ = _; rw [t1.out, z1, q1]; rfl
        rcases least_way b2 m2 x.id with rfl | ⟨rfl, z2⟩ | ⟨rfl, z2, q2⟩ | ⟨rfl, z2, q2⟩
        · have u2 : Hid (leastId (fun y => highV f p y == hi) (f.ls.take (j + 1)) = m2) := by show _ = _; rw [t2.out]; rfl
          have l0 := Joins.cell_of_block bl 0
          have s2 := Joins.cell_of_block bs 2
          have f2 := Joins.unfrozen_of_block bs 2
          have s3 := Joins.cell_of_block bs 3
          have f3 := Joins.unfrozen_of_block bs 3
          have h1 := Joins.block_setCell (i := 2) bs (.int .i64 x.id)
          have v3 := Joins.cell_of_block h1 3
          have w3 := Joins.unfrozen_of_block h1 3
          have l1 := Joins.cell_of_block ((put_other (b := n3) (i := 2) (.int .i64 x.id) (show nl ≠ n3 by omega)).trans bl) 0
          go_wp2_with fail
          have bs' := Joins.block_setCell (i := 2) bs (.int .i64 x.id)
          have bf' := (put_other (b := n3) (i := 2) (.int .i64 x.id) (show w.heap.size ≠ n3 by omega)).trans bf
          have bp' := (put_other (b := n3) (i := 2) (.int .i64 x.id) (show n1 ≠ n3 by omega)).trans bp
          have br' := (put_other (b := n3) (i := 2) (.int .i64 x.id) (show n2 ≠ n3 by omega)).trans br
          have hbw' := below_set (i := 2) (v := .int .i64 x.id) hbw (show w.heap.size ≤ n3 by omega)
          go_roundw
          case rel => exact ⟨j + 1, by omega, by go_num, bf', bp', br', by rw [u1.out, u2.out]; simpa using bs', hbw'⟩
          case measure => simp [intOf]; omega
        · have u2 : Hid (leastId (fun y => highV f p y == hi) (f.ls.take (j + 1)) = x.id) := by show _ = _; rw [t2.out, z2]; rfl
          have l0 := Joins.cell_of_block bl 0
          have s2 := Joins.cell_of_block bs 2
          have f2 := Joins.unfrozen_of_block bs 2
          have s3 := Joins.cell_of_block bs 3
          have f3 := Joins.unfrozen_of_block bs 3
          have h1 := Joins.block_setCell (i := 2) bs (.int .i64 x.id)
          have v3 := Joins.cell_of_block h1 3
          have w3 := Joins.unfrozen_of_block h1 3
          have l1 := Joins.cell_of_block ((put_other (b := n3) (i := 2) (.int .i64 x.id) (show nl ≠ n3 by omega)).trans bl) 0
          go_wp2_with fail
          have bs' := Joins.block_setCell (i := 2) bs (.int .i64 x.id)
          have bf' := (put_other (b := n3) (i := 2) (.int .i64 x.id) (show w.heap.size ≠ n3 by omega)).trans bf
          have bp' := (put_other (b := n3) (i := 2) (.int .i64 x.id) (show n1 ≠ n3 by omega)).trans bp
          have br' := (put_other (b := n3) (i := 2) (.int .i64 x.id) (show n2 ≠ n3 by omega)).trans br
          have hbw' := below_set (i := 2) (v := .int .i64 x.id) hbw (show w.heap.size ≤ n3 by omega)
          have bs'' := Joins.block_setCell (i := 3) bs' (.int .i64 x.id)
          have bf'' := (put_other (b := n3) (i := 3) (.int .i64 x.id) (show w.heap.size ≠ n3 by omega)).trans bf'
          have bp'' := (put_other (b := n3) (i := 3) (.int .i64 x.id) (show n1 ≠ n3 by omega)).trans bp'
          have br'' := (put_other (b := n3) (i := 3) (.int .i64 x.id) (show n2 ≠ n3 by omega)).trans br'
          have hbw'' := below_set (i := 3) (v := .int .i64 x.id) hbw' (show w.heap.size ≤ n3 by omega)
          go_roundw
          case rel => exact ⟨j + 1, by omega, by go_num, bf'', bp'', br'', by rw [u1.out, u2.out]; simpa using bs'', hbw''⟩
          case measure => simp [intOf]; omega
        · have u2 : Hid (leastId (fun y => highV f p y == hi) (f.ls.take (j + 1)) = x.id) := by show _ = _; rw [t2.out, z2, q2]; rfl
          have l0 := Joins.cell_of_block bl 0
          have s2 := Joins.cell_of_block bs 2
          have f2 := Joins.unfrozen_of_block bs 2
          have s3 := Joins.cell_of_block bs 3
          have f3 := Joins.unfrozen_of_block bs 3
          have h1 := Joins.block_setCell (i := 2) bs (.int .i64 x.id)
          have v3 := Joins.cell_of_block h1 3
          have w3 := Joins.unfrozen_of_block h1 3
          have l1 := Joins.cell_of_block ((put_other (b := n3) (i := 2) (.int .i64 x.id) (show nl ≠ n3 by omega)).trans bl) 0
          go_wp2_with fail
          have bs' := Joins.block_setCell (i := 2) bs (.int .i64 x.id)
          have bf' := (put_other (b := n3) (i := 2) (.int .i64 x.id) (show w.heap.size ≠ n3 by omega)).trans bf
          have bp' := (put_other (b := n3) (i := 2) (.int .i64 x.id) (show n1 ≠ n3 by omega)).trans bp
          have br' := (put_other (b := n3) (i := 2) (.int .i64 x.id) (show n2 ≠ n3 by omega)).trans br
          have hbw' := below_set (i := 2) (v := .int .i64 x.id) hbw (show w.heap.size ≤ n3 by omega)
          have bs'' := Joins.block_setCell (i := 3) bs' (.int .i64 x.id)
          have bf'' := (put_other (b := n3) (i := 3) (.int .i64 x.id) (show w.heap.size ≠ n3 by omega)).trans bf'
          have bp'' := (put_other (b := n3) (i := 3) (.int .i64 x.id) (show n1 ≠ n3 by omega)).trans bp'
          have br'' := (put_other (b := n3) (i := 3) (.int .i64 x.id) (show n2 ≠ n3 by omega)).trans br'
          have hbw'' := below_set (i := 3) (v := .int .i64 x.id) hbw' (show w.heap.size ≤ n3 by omega)
          go_roundw
          case rel => exact ⟨j + 1, by omega, by go_num, bf'', bp'', br'', by rw [u1.out, u2.out]; simpa using bs'', hbw''⟩
          case measure => simp [intOf]; omega
        · have u2 : Hid (leastId (fun y => highV f p y == hi) (f.ls.take (j + 1)) = m2) := by show _ = _; rw [t2.out, z2, q2]; rfl
          have l0 := Joins.cell_of_block bl 0
          have s2 := Joins.cell_of_block bs 2
          have f2 := Joins.unfrozen_of_block bs 2
          have s3 := Joins.cell_of_block bs 3
          have f3 := Joins.unfrozen_of_block bs 3
          have h1 := Joins.block_setCell (i := 2) bs (.int .i64 x.id)
          have v3 := Joins.cell_of_block h1 3
          have w3 := Joins.unfrozen_of_block h1 3
          have l1 := Joins.cell_of_block ((put_other (b := n3) (i := 2) (.int .i64 x.id) (show nl ≠ n3 by omega)).trans bl) 0
          go_wp2_with fail
          have bs' := Joins.block_setCell (i := 2) bs (.int .i64 x.id)
          have bf' := (put_other (b := n3) (i := 2) (.int .i64 x.id) (show w.heap.size ≠ n3 by omega)).trans bf
          have bp' := (put_other (b := n3) (i := 2) (.int .i64 x.id) (show n1 ≠ n3 by omega)).trans bp
          have br' := (put_other (b := n3) (i := 2) (.int .i64 x.id) (show n2 ≠ n3 by omega)).trans br
          have hbw' := below_set (i := 2) (v := .int .i64 x.id) hbw (show w.heap.size ≤ n3 by omega)
          go_roundw
          case rel => exact ⟨j + 1, by omega, by go_num, bf', bp', br', by rw [u1.out, u2.out]; simpa using bs', hbw'⟩
          case measure => simp [intOf]; omega
      · have u1 : Hid (leastId (fun y => lowV f p y == lo) (f.ls.take (j + 1)) = m1) := by show _ = _; rw [t1.out, z1, q1]; rfl
        rcases least_way b2 m2 x.id with rfl | ⟨rfl, z2⟩ | ⟨rfl, z2, q2⟩ | ⟨rfl, z2, q2⟩
        · have u2 : Hid (leastId (fun y => highV f p y == hi) (f.ls.take (j + 1)) = m2) := by show _ = _; rw [t2.out]; rfl
          have l0 := Joins.cell_of_block bl 0
          have s2 := Joins.cell_of_block bs 2
          have f2 := Joins.unfrozen_of_block bs 2
          have s3 := Joins.cell_of_block bs 3
          have f3 := Joins.unfrozen_of_block bs 3
          go_wp2_with fail
          go_roundw
          case rel => exact ⟨j + 1, by omega, by go_num, bf, bp, br, by rw [u1.out, u2.out]; simpa using bs, hbw⟩
          case measure => simp [intOf]; omega
        · have u2 : Hid (leastId (fun y => highV f p y == hi) (f.ls.take (j + 1)) = x.id) := by show _ = _; rw [t2.out, z2]; rfl
          have l0 := Joins.cell_of_block bl 0
          have s2 := Joins.cell_of_block bs 2
          have f2 := Joins.unfrozen_of_block bs 2
          have s3 := Joins.cell_of_block bs 3
          have f3 := Joins.unfrozen_of_block bs 3
          go_wp2_with fail
          have bs' := Joins.block_setCell (i := 3) bs (.int .i64 x.id)
          have bf' := (put_other (b := n3) (i := 3) (.int .i64 x.id) (show w.heap.size ≠ n3 by omega)).trans bf
          have bp' := (put_other (b := n3) (i := 3) (.int .i64 x.id) (show n1 ≠ n3 by omega)).trans bp
          have br' := (put_other (b := n3) (i := 3) (.int .i64 x.id) (show n2 ≠ n3 by omega)).trans br
          have hbw' := below_set (i := 3) (v := .int .i64 x.id) hbw (show w.heap.size ≤ n3 by omega)
          go_roundw
          case rel => exact ⟨j + 1, by omega, by go_num, bf', bp', br', by rw [u1.out, u2.out]; simpa using bs', hbw'⟩
          case measure => simp [intOf]; omega
        · have u2 : Hid (leastId (fun y => highV f p y == hi) (f.ls.take (j + 1)) = x.id) := by show _ = _; rw [t2.out, z2, q2]; rfl
          have l0 := Joins.cell_of_block bl 0
          have s2 := Joins.cell_of_block bs 2
          have f2 := Joins.unfrozen_of_block bs 2
          have s3 := Joins.cell_of_block bs 3
          have f3 := Joins.unfrozen_of_block bs 3
          go_wp2_with fail
          have bs' := Joins.block_setCell (i := 3) bs (.int .i64 x.id)
          have bf' := (put_other (b := n3) (i := 3) (.int .i64 x.id) (show w.heap.size ≠ n3 by omega)).trans bf
          have bp' := (put_other (b := n3) (i := 3) (.int .i64 x.id) (show n1 ≠ n3 by omega)).trans bp
          have br' := (put_other (b := n3) (i := 3) (.int .i64 x.id) (show n2 ≠ n3 by omega)).trans br
          have hbw' := below_set (i := 3) (v := .int .i64 x.id) hbw (show w.heap.size ≤ n3 by omega)
          go_roundw
          case rel => exact ⟨j + 1, by omega, by go_num, bf', bp', br', by rw [u1.out, u2.out]; simpa using bs', hbw'⟩
          case measure => simp [intOf]; omega
        · have u2 : Hid (leastId (fun y => highV f p y == hi) (f.ls.take (j + 1)) = m2) := by show _ = _; rw [t2.out, z2, q2]; rfl
          have l0 := Joins.cell_of_block bl 0
          have s2 := Joins.cell_of_block bs 2
          have f2 := Joins.unfrozen_of_block bs 2
          have s3 := Joins.cell_of_block bs 3
          have f3 := Joins.unfrozen_of_block bs 3
          go_wp2_with fail
          go_roundw
          case rel => exact ⟨j + 1, by omega, by go_num, bf, bp, br, by rw [u1.out, u2.out]; simpa using bs, hbw⟩
          case measure => simp [intOf]; omega
    · obtain rfl : j = f.ls.length := by omega
      rw [List.take_length, ← HR1.out, ← HR2.out] at bs
      have cf4 := Joins.cell_of_block bf 4
      have e0 := Joins.cell_of_block bs 0
      have e1 := Joins.cell_of_block bs 1
      have e2 := Joins.cell_of_block bs 2
      have e3 := Joins.cell_of_block bs 3
      have HP := Lib.hid (fun j : Nat => cell_setRow_same wr n2 j _ #[.int .i64 lo, .int .i64 hi, .int .i64 r1, .int .i64 r2] _ _ br)
      have BF := below_setRow hbw (show w.heap.size ≤ n2 by omega) #[.int .i64 lo, .int .i64 hi, .int .i64 r1, .int .i64 r2]
      go_wp2_with (refine wpList_store_rowTo rfl 56 _ _ rfl rfl n2 #[.int .i64 lo, .int .i64 hi, .int .i64 r1, .int .i64 r2] rfl rfl 56 _ br (by kernel_rfl) rfl (by kernel_rfl) ?_)
      refine bodyPost_ret (v := .agg #[.int .i64 lo, .int .i64 hi, .int .i64 r1, .int .i64 r2]) ?_ rfl ⟨rfl, BF⟩
      simp [results, Tryz.results80, go_sem, HP.out]
end Go.Proofs.YtjpoacffnpgjdaaGreat
