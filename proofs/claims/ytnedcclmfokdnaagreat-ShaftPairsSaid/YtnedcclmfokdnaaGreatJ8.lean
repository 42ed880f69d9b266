/- Texts joined: ShaftB ShaftC ShaftD ShaftE ShaftF ShaftG ShaftH SSpec. -/
import Derived.Test.YtnedcclmfokdnaaGreatJ7
import Derived.Maps.OwnOps
import Derived.Test.YtnedcclmfokdnaaGreatJ4
import Derived.Test.YtnedcclmfokdnaaGreatJ2
import Derived.Test.YtnedcclmfokdnaaGreatJ5
namespace Go.Proofs.YtnedcclmfokdnaaGreat
open Go.RowKit
def partV (bs i : Int) : Value := .agg #[.int .i64 (markB bs i), .int .i64 (markB bs (i + 1))]
def partsL (l : List Rec) (bs : Int) (j : Nat) : List (Int × Value) := (List.range j).flatMap fun i => match l[i]? with | some x => [(x.id, partV bs i)] | none => []
theorem partsL_succ {l : List Rec} {bs : Int} {j : Nat} {x : Rec} (hx : l[j]? = some x) : partsL l bs (j + 1) = partsL l bs j ++ [(x.id, partV bs j)] := by
  unfold partsL; rw [List.range_succ, List.flatMap_append]; simp [hx]
theorem lookup_app {α : Type} (a b : List (Int × α)) (x : Int) : (a ++ b).lookup x = (a.lookup x).or (b.lookup x) := by
  induction a with
  | nil => simp
  | cons p a ih => rw [List.cons_append, List.lookup_cons, List.lookup_cons]; cases x == p.1 <;> simp [ih]
theorem lookup_parts_none {l : List Rec} {bs : Int} {id : Int} : ∀ {j : Nat}, (∀ (m : Nat) (x : Rec), m < j → l[m]? = some x → x.id ≠ id) → (partsL l bs j).lookup id = none
  | 0, _ => rfl
  | j + 1, h => by
    have ih := lookup_parts_none (bs := bs) (j := j) fun m x hm hx => h m x (by omega) hx
    cases hx : l[j]? with
    | none =>
      have : partsL l bs (j + 1) = partsL l bs j := by unfold partsL; rw [List.range_succ, List.flatMap_append]; simp [hx]
      rw [this]; exact ih
    | some x =>
      rw [partsL_succ hx, lookup_app, ih]
      have := h j x (by omega) hx
      rw [List.lookup_cons]
      have e : (id == x.id) = false := by simpa using Ne.symm this
      rw [e]; rfl
theorem lookup_parts_some {l : List Rec} {bs : Int} {id : Int} {i : Nat} {x : Rec} (hx : l[i]? = some x) (hid : x.id = id) (hf : ∀ (m : Nat) (x : Rec), m < i → l[m]? = some x → x.id ≠ id) :
    ∀ {j : Nat}, i < j → (partsL l bs j).lookup id = some (partV bs i)
  | 0, h => by omega
  | j + 1, h => by
    by_cases e : i = j
    · subst e
      rw [partsL_succ hx, lookup_app, lookup_parts_none hf, List.lookup_cons]
      simp [hid]
    · have ih := lookup_parts_some (bs := bs) hx hid hf (j := j) (by omega)
      cases hy : l[j]? with
      | none =>
        have : partsL l bs (j + 1) = partsL l bs j := by unfold partsL; rw [List.range_succ, List.flatMap_append]; simp [hy]
        rw [this]; exact ih
      | some y => rw [partsL_succ hy, lookup_app, ih]; rfl
theorem place_cases (l : List Rec) (id : Int) : (place l id = -1 ∧ ∀ (j : Nat) (x : Rec), l[j]? = some x → x.id ≠ id) ∨
    ∃ (i : Nat) (x : Rec), place l id = i ∧ l[i]? = some x ∧ x.id = id ∧ i < l.length ∧ ∀ (m : Nat) (y : Rec), m < i → l[m]? = some y → y.id ≠ id := by
  unfold place
  cases h : l.findIdx? (fun r => r.id == id) with
  | none =>
    refine .inl ⟨rfl, fun j x hx => ?_⟩
    have := List.findIdx?_eq_none_iff.1 h x (List.mem_of_getElem? hx)
    simpa using this
  | some i =>
    obtain ⟨hl, h1, h2⟩ := List.findIdx?_eq_some_iff_getElem.1 h
    refine .inr ⟨i, l[i], rfl, List.getElem?_eq_getElem hl, by simpa using h1, hl, fun m y hm hy => ?_⟩
    have := h2 m hm
    rw [(List.getElem?_eq_some_iff.1 hy).2] at this
    simpa using this
theorem lookup_place (l : List Rec) (bs id : Int) : (partsL l bs l.length).lookup id = if place l id < 0 then none else some (partV bs (place l id)) := by
  rcases place_cases l id with ⟨h, hn⟩ | ⟨i, x, h, hx, hid, hl, hf⟩
  · rw [h, if_pos (by omega)]; exact lookup_parts_none fun m x _ hx => hn m x hx
  · rw [h, if_neg (by omega)]; exact lookup_parts_some hx hid hf hl
def NoTwice (l : List Rec) : Prop := ∀ (i j : Nat) (x y : Rec), l[i]? = some x → l[j]? = some y → x.id = y.id → i = j
def runI (l : List Rec) (bs frm too : Int) : (Int × Int) × Int :=
  if place l frm < 0 ∨ place l too < 0 then ((0, 0), 5) else if place l too < place l frm then ((0, 0), 1) else ((markB bs (place l frm), markB bs (place l too + 1)), 0)
theorem Tryz.zeroPart (w : World) : (zeroValue 160).run Tryz.prog w = .ok (.agg #[.int .i64 0, .int .i64 0]) w := by kernel_rfl
set_option maxRecDepth 100000 in
theorem partsL_c (l : List Rec) (v : Value) (bs : Int) (w : World) (hv : Recs w w.heap.size v l) (hbs : 0 ≤ bs ∧ bs ≤ 1000) (hno : NoTwice l) :
    Calls Tryz.prog 110 #[.agg #[v, .int .i64 bs]] w fun e w' => ∃ r, e = .returned (.map (some r)) ∧ IMap w' r (partsL l bs l.length) ∧ Below w.heap.size w w' := by
  obtain ⟨A, cap, rfl, _, hn, hat0⟩ := id hv
  clear hat0
  have HV := Lib.hid hv
  have HNO := Lib.hid hno
  clear hv hno
  have hmm := @run_makeMap Tryz.prog
  have hfl := Tryz.fieldID
  go_enter Tryz.func110, Tryz.ntmps110
  go_wp2
  go_loopw [9] (fun i wr => ∃ j : Nat, j ≤ l.length ∧ i = .int .i64 j ∧ IMap wr (w.heap.size + 1) (partsL l bs j) ∧ Below (w.heap.size + 1) (w.alloc (.cells #[.slice A l.length cap, .int .i64 bs] 130)) wr) (fun i _ => l.length - (intOf i).toNat)
  case atStart => exact ⟨0, Nat.zero_le _, rfl, by have := IMap.made (w.alloc (.cells #[.slice A l.length cap, .int .i64 bs] 130)); simpa [partsL] using this, (Below.refl _ _).alloc (by simp) _⟩
  case round =>
    obtain ⟨j, hj, rfl, hmap, hbw⟩ := hrel
    obtain ⟨hc, hf⟩ := bcellB hbw
    have hml := hmap.lt
    have hB0 := below_then (below_alloc w (.cells #[.slice A l.length cap, .int .i64 bs] 130)) (hbw.mono (by simp))
    have hzr : w.heap.size < wr.heap.size := by omega
    by_cases hlt : j < l.length
    · obtain ⟨x, hx0⟩ : ∃ x, l[j]? = some x := ⟨_, List.getElem?_eq_getElem hlt⟩
      have hx := Lib.hid hx0
      have hfresh := Lib.hid (lookup_parts_none (bs := bs) (j := j) (id := x.id) fun m y hm hy e => by have := HNO.out m j y x hy hx0 e; omega)
      clear hx0
      go_wp2_with fail
      refine wp_region_grown_tail 8 (by kernel_rfl) (by kernel_rfl) fun hcg => ?_
      simp only [List.take_succ_cons, List.take_zero, List.drop_succ_cons, List.drop_zero]
      repeat (go_big_quiet_step (first | (go_at_call 143; exact Calls.grown (atL_c l _ _ j x _ (HV.out.later (below_then hB0 (Gr.b _))) hx.out)) | (go_at_call 154; exact Calls.grown (partL_c _ _ _ _ (by omega) (by omega)))))
      refine wpQuiet_nil ?_
      intro _ hw'
      obtain ⟨g, hw''⟩ := hw'
      subst hw''
      have hmg := hmap.later g.b
      have hbg := below_grown hbw (by omega) g.b
      clear hc hf hcg
      go_wp2_with (at_mapUpdate; refine wpList_mapUpdate_new rfl _ _ _ 168 rfl Tryz.underlying168 Tryz.underlying3 rfl x.id rfl (partV bs j) rfl hmg hfresh.out ?_)
      intro w1 hmap1 hgrow1
      have hb1 := hbg.grown hgrow1 (by have := g.b.size; omega) fun k e => by cases e; exact Nat.le_refl _
      clear hgrow1
      go_wp2
      go_roundw
      case rel => exact ⟨j + 1, by omega, by go_num, by rw [partsL_succ hx.out]; exact hmap1, hb1⟩
      case measure => simp [intOf]; omega
    · obtain rfl : j = l.length := by omega
      go_wp2
      go_ret
      exact ⟨_, rfl, hmap, hB0⟩
set_option maxRecDepth 100000 in
theorem runL_c (l : List Rec) (v : Value) (bs frm too : Int) (w : World) (hv : Recs w w.heap.size v l) (hbs : 0 ≤ bs ∧ bs ≤ 1000) (hno : NoTwice l) :
    Calls Tryz.prog 102 #[.agg #[v, .int .i64 bs], .int .i64 frm, .int .i64 too] w
      fun e w' => e = .returned (.tuple #[.agg #[.int .i64 (runI l bs frm too).1.1, .int .i64 (runI l bs frm too).1.2], .int .i64 (runI l bs frm too).2]) ∧ Below w.heap.size w w' := by
  obtain ⟨A, cap, rfl, _, hn, hat0⟩ := id hv
  clear hat0
  go_enter Tryz.func102, Tryz.ntmps102
  go_wp2_with fail
  refine (partsL_c l _ _ _ (hv.later (below_then (below_alloc _ _) (below_alloc _ _))) hbs hno).mono ?_
  rintro e w1 ⟨r, rfl, hmap, hb1⟩
  obtain ⟨hc1, hf1⟩ := bcell hb1
  have HL1 := Lib.hid (lookup_place l bs frm)
  have HL2 := Lib.hid (lookup_place l bs too)
  have HM := Lib.hid hmap
  clear hmap
  have hs1 := hb1.size
  simp only [World.size_alloc] at hs1
  have hz0 : w.heap.size < w1.heap.size := by omega
  have hz1 : w.heap.size + 1 < w1.heap.size := by omega
  have hB1 := below_then (below_then (below_alloc w (.cells #[.slice A l.length cap, .int .i64 bs] 130)) (below_alloc _ (.cells #[.int .i64 0, .int .i64 0] 160))) hb1
  rcases place_cases l frm with ⟨p1, _⟩ | ⟨i, x, p1, _, _, hi, _⟩
  · have HR : Hid (runI l bs frm too = ((0, 0), 5)) := by show runI l bs frm too = _; rw [runI, p1, if_pos (.inl (by omega))]
    rw [p1, if_pos (by omega)] at HL1
    rcases place_cases l too with ⟨p2, _⟩ | ⟨j, y, p2, _, _, hj, _⟩
    · rw [p2, if_pos (by omega)] at HL2
      clear p1 p2
      go_wp2_with (first | (at_lookup; refine wpList_lookup_i rfl (.tmp 16) (.tmp 17) 168 true rfl Tryz.underlying168 Tryz.underlying3 (.agg #[.int .i64 0, .int .i64 0]) Tryz.zeroPart rfl frm rfl (HM.out.later (by first | exact Below.refl _ _ | exact below_alloc _ _)) (.tuple #[.agg #[.int .i64 0, .int .i64 0], .bool false]) (by rw [HL1.out]; rfl) ?_) | (at_lookup; refine wpList_lookup_i rfl (.tmp 22) (.tmp 23) 168 true rfl Tryz.underlying168 Tryz.underlying3 (.agg #[.int .i64 0, .int .i64 0]) Tryz.zeroPart rfl too rfl (HM.out.later (by first | exact Below.refl _ _ | exact below_alloc _ _)) (.tuple #[.agg #[.int .i64 0, .int .i64 0], .bool false]) (by rw [HL2.out]; rfl) ?_))
      exact bodyPost_ret (v := .tuple #[.agg #[.int .i64 0, .int .i64 0], .int .i64 5]) (by simp [results, Tryz.results102, go_sem, hc1, hz0, hz1]) rfl ⟨by rw [HR.out], by repeat (first | exact hB1 | refine Below.alloc ?_ (by first | omega | (simp; omega)) _ | refine Below.setCell ?_ (by simp) _)⟩
    · rw [p2, if_neg (by omega)] at HL2
      clear p1 p2
      go_wp2_with (first | (at_lookup; refine wpList_lookup_i rfl (.tmp 16) (.tmp 17) 168 true rfl Tryz.underlying168 Tryz.underlying3 (.agg #[.int .i64 0, .int .i64 0]) Tryz.zeroPart rfl frm rfl (HM.out.later (by first | exact Below.refl _ _ | exact below_alloc _ _)) (.tuple #[.agg #[.int .i64 0, .int .i64 0], .bool false]) (by rw [HL1.out]; rfl) ?_) | (at_lookup; refine wpList_lookup_i rfl (.tmp 22) (.tmp 23) 168 true rfl Tryz.underlying168 Tryz.underlying3 (.agg #[.int .i64 0, .int .i64 0]) Tryz.zeroPart rfl too rfl (HM.out.later (by first | exact Below.refl _ _ | exact below_alloc _ _)) (.tuple #[.agg #[.int .i64 (markB bs j), .int .i64 (markB bs (j + 1))], .bool true]) (by rw [HL2.out]; rfl) ?_))
      exact bodyPost_ret (v := .tuple #[.agg #[.int .i64 0, .int .i64 0], .int .i64 5]) (by simp [results, Tryz.results102, go_sem, hc1, hz0, hz1]) rfl ⟨by rw [HR.out], by repeat (first | exact hB1 | refine Below.alloc ?_ (by first | omega | (simp; omega)) _ | refine Below.setCell ?_ (by simp) _)⟩
  · rw [p1, if_neg (by omega)] at HL1
    rcases place_cases l too with ⟨p2, _⟩ | ⟨j, y, p2, _, _, hj, _⟩
    · have HR : Hid (runI l bs frm too = ((0, 0), 5)) := by show runI l bs frm too = _; rw [runI, p2, if_pos (.inr (by omega))]
      rw [p2, if_pos (by omega)] at HL2
      clear p1 p2
      go_wp2_with (first | (at_lookup; refine wpList_lookup_i rfl (.tmp 16) (.tmp 17) 168 true rfl Tryz.underlying168 Tryz.underlying3 (.agg #[.int .i64 0, .int .i64 0]) Tryz.zeroPart rfl frm rfl (HM.out.later (by first | exact Below.refl _ _ | exact below_alloc _ _)) (.tuple #[.agg #[.int .i64 (markB bs i), .int .i64 (markB bs (i + 1))], .bool true]) (by rw [HL1.out]; rfl) ?_) | (at_lookup; refine wpList_lookup_i rfl (.tmp 22) (.tmp 23) 168 true rfl Tryz.underlying168 Tryz.underlying3 (.agg #[.int .i64 0, .int .i64 0]) Tryz.zeroPart rfl too rfl (HM.out.later (by first | exact Below.refl _ _ | exact below_alloc _ _)) (.tuple #[.agg #[.int .i64 0, .int .i64 0], .bool false]) (by rw [HL2.out]; rfl) ?_))
      exact bodyPost_ret (v := .tuple #[.agg #[.int .i64 0, .int .i64 0], .int .i64 5]) (by simp [results, Tryz.results102, go_sem, hc1, hz0, hz1]) rfl ⟨by rw [HR.out], by repeat (first | exact hB1 | refine Below.alloc ?_ (by first | omega | (simp; omega)) _ | refine Below.setCell ?_ (by simp) _)⟩
    · rw [p2, if_neg (by omega)] at HL2
      by_cases hij : j < i
      · have HR : Hid (runI l bs frm too = ((0, 0), 1)) := by show runI l bs frm too = _; rw [runI, p1, p2, if_neg (by omega), if_pos (by omega)]
        have hm : markB bs ((j : Int) + 1) < markB bs ((i : Int) + 1) := by unfold markB; rw [if_neg (by omega), if_neg (by omega)]; omega
        clear p1 p2
        go_wp2_with (first | (at_lookup; refine wpList_lookup_i rfl (.tmp 16) (.tmp 17) 168 true rfl Tryz.underlying168 Tryz.underlying3 (.agg #[.int .i64 0, .int .i64 0]) Tryz.zeroPart rfl frm rfl (HM.out.later (by first | exact Below.refl _ _ | exact below_alloc _ _)) (.tuple #[.agg #[.int .i64 (markB bs i), .int .i64 (markB bs (i + 1))], .bool true]) (by rw [HL1.out]; rfl) ?_) | (at_lookup; refine wpList_lookup_i rfl (.tmp 22) (.tmp 23) 168 true rfl Tryz.underlying168 Tryz.underlying3 (.agg #[.int .i64 0, .int .i64 0]) Tryz.zeroPart rfl too rfl (HM.out.later (by first | exact Below.refl _ _ | exact below_alloc _ _)) (.tuple #[.agg #[.int .i64 (markB bs j), .int .i64 (markB bs (j + 1))], .bool true]) (by rw [HL2.out]; rfl) ?_))
        exact bodyPost_ret (v := .tuple #[.agg #[.int .i64 0, .int .i64 0], .int .i64 1]) (by simp [results, Tryz.results102, go_sem, hc1, hz0, hz1]) rfl ⟨by rw [HR.out], by repeat (first | exact hB1 | refine Below.alloc ?_ (by first | omega | (simp; omega)) _ | refine Below.setCell ?_ (by simp) _)⟩
      · have HR : Hid (runI l bs frm too = ((markB bs i, markB bs (j + 1)), 0)) := by show runI l bs frm too = _; rw [runI, p1, p2, if_neg (by omega), if_neg (by omega)]
        have hm : ¬ markB bs ((j : Int) + 1) < markB bs ((i : Int) + 1) := by unfold markB; rw [if_neg (by omega), if_neg (by omega)]; omega
        clear p1 p2
        go_wp2_with (first | (at_lookup; refine wpList_lookup_i rfl (.tmp 16) (.tmp 17) 168 true rfl Tryz.underlying168 Tryz.underlying3 (.agg #[.int .i64 0, .int .i64 0]) Tryz.zeroPart rfl frm rfl (HM.out.later (by first | exact Below.refl _ _ | exact below_alloc _ _)) (.tuple #[.agg #[.int .i64 (markB bs i), .int .i64 (markB bs (i + 1))], .bool true]) (by rw [HL1.out]; rfl) ?_) | (at_lookup; refine wpList_lookup_i rfl (.tmp 22) (.tmp 23) 168 true rfl Tryz.underlying168 Tryz.underlying3 (.agg #[.int .i64 0, .int .i64 0]) Tryz.zeroPart rfl too rfl (HM.out.later (by first | exact Below.refl _ _ | exact below_alloc _ _)) (.tuple #[.agg #[.int .i64 (markB bs j), .int .i64 (markB bs (j + 1))], .bool true]) (by rw [HL2.out]; rfl) ?_))
        exact bodyPost_ret (v := .tuple #[.agg #[.int .i64 (markB bs i), .int .i64 (markB bs (j + 1))], .int .i64 0]) (by simp [results, Tryz.results102, go_sem, hc1, hz0, hz1]) rfl ⟨by rw [HR.out], by repeat (first | exact hB1 | refine Below.alloc ?_ (by first | omega | (simp; omega)) _ | refine Below.setCell ?_ (by simp) _)⟩
set_option maxRecDepth 100000 in
theorem partsD_c (l : List Rec) (v : Value) (bs : Int) (w : World) (hv : Recs w w.heap.size v l) (hbs : 0 ≤ bs ∧ bs ≤ 1000) (hno : NoTwice l) :
    Calls Tryz.prog 153 #[.agg #[v, .int .i64 bs]] w fun e w' => ∃ r, e = .returned (.map (some r)) ∧ IMap w' r (partsL l bs l.length) ∧ Below w.heap.size w w' := by
  obtain ⟨A, cap, rfl, _, hn, hat0⟩ := id hv
  clear hat0
  have HV := Lib.hid hv
  have HNO := Lib.hid hno
  clear hv hno
  have hmm := @run_makeMap Tryz.prog
  have hfl := Tryz.fieldID
  go_enter Tryz.func153, Tryz.ntmps153
  go_wp2
  go_loopw [9] (fun i wr => ∃ j : Nat, j ≤ l.length ∧ i = .int .i64 j ∧ IMap wr (w.heap.size + 1) (partsL l bs j) ∧ Below (w.heap.size + 1) (w.alloc (.cells #[.slice A l.length cap, .int .i64 bs] 134)) wr) (fun i _ => l.length - (intOf i).toNat)
  case atStart => exact ⟨0, Nat.zero_le _, rfl, by have := IMap.made (w.alloc (.cells #[.slice A l.length cap, .int .i64 bs] 134)); simpa [partsL] using this, (Below.refl _ _).alloc (by simp) _⟩
  case round =>
    obtain ⟨j, hj, rfl, hmap, hbw⟩ := hrel
    obtain ⟨hc, hf⟩ := bcellB hbw
    have hml := hmap.lt
    have hB0 := below_then (below_alloc w (.cells #[.slice A l.length cap, .int .i64 bs] 134)) (hbw.mono (by simp))
    have hzr : w.heap.size < wr.heap.size := by omega
    by_cases hlt : j < l.length
    · obtain ⟨x, hx0⟩ : ∃ x, l[j]? = some x := ⟨_, List.getElem?_eq_getElem hlt⟩
      have hx := Lib.hid hx0
      have hfresh := Lib.hid (lookup_parts_none (bs := bs) (j := j) (id := x.id) fun m y hm hy e => by have := HNO.out m j y x hy hx0 e; omega)
      clear hx0
      go_wp2_with fail
      refine wp_region_grown_tail 8 (by kernel_rfl) (by kernel_rfl) fun hcg => ?_
      simp only [List.take_succ_cons, List.take_zero, List.drop_succ_cons, List.drop_zero]
      repeat (go_big_quiet_step (first | (go_at_call 147; exact Calls.grown (atD_c l _ _ j x _ (HV.out.later (below_then hB0 (Gr.b _))) hx.out)) | (go_at_call 162; exact Calls.grown (partD_c _ _ _ _ (by omega) (by omega)))))
      refine wpQuiet_nil ?_
      intro _ hw'
      obtain ⟨g, hw''⟩ := hw'
      subst hw''
      have hmg := hmap.later g.b
      have hbg := below_grown hbw (by omega) g.b
      clear hc hf hcg
      go_wp2_with (at_mapUpdate; refine wpList_mapUpdate_new rfl _ _ _ 168 rfl Tryz.underlying168 Tryz.underlying3 rfl x.id rfl (partV bs j) rfl hmg hfresh.out ?_)
      intro w1 hmap1 hgrow1
      have hb1 := hbg.grown hgrow1 (by have := g.b.size; omega) fun k e => by cases e; exact Nat.le_refl _
      clear hgrow1
      go_wp2
      go_roundw
      case rel => exact ⟨j + 1, by omega, by go_num, by rw [partsL_succ hx.out]; exact hmap1, hb1⟩
      case measure => simp [intOf]; omega
    · obtain rfl : j = l.length := by omega
      go_wp2
      go_ret
      exact ⟨_, rfl, hmap, hB0⟩
set_option maxRecDepth 100000 in
theorem runD_c (l : List Rec) (v : Value) (bs frm too : Int) (w : World) (hv : Recs w w.heap.size v l) (hbs : 0 ≤ bs ∧ bs ≤ 1000) (hno : NoTwice l) :
    Calls Tryz.prog 103 #[.agg #[v, .int .i64 bs], .int .i64 frm, .int .i64 too] w
      fun e w' => e = .returned (.tuple #[.agg #[.int .i64 (runI l bs frm too).1.1, .int .i64 (runI l bs frm too).1.2], .int .i64 (runI l bs frm too).2]) ∧ Below w.heap.size w w' := by
  obtain ⟨A, cap, rfl, _, hn, hat0⟩ := id hv
  clear hat0
  go_enter Tryz.func103, Tryz.ntmps103
  go_wp2_with fail
  refine (partsD_c l _ _ _ (hv.later (below_then (below_alloc _ _) (below_alloc _ _))) hbs hno).mono ?_
  rintro e w1 ⟨r, rfl, hmap, hb1⟩
  obtain ⟨hc1, hf1⟩ := bcell hb1
  have HL1 := Lib.hid (lookup_place l bs frm)
  have HL2 := Lib.hid (lookup_place l bs too)
  have HM := Lib.hid hmap
  clear hmap
  have hs1 := hb1.size
  simp only [World.size_alloc] at hs1
  have hz0 : w.heap.size < w1.heap.size := by omega
  have hz1 : w.heap.size + 1 < w1.heap.size := by omega
  have hB1 := below_then (below_then (below_alloc w (.cells #[.slice A l.length cap, .int .i64 bs] 134)) (below_alloc _ (.cells #[.int .i64 0, .int .i64 0] 160))) hb1
  rcases place_cases l frm with ⟨p1, _⟩ | ⟨i, x, p1, _, _, hi, _⟩
  · have HR : Hid (runI l bs frm too = ((0, 0), 5)) := by show runI l bs frm too = _; rw [runI, p1, if_pos (.inl (by omega))]
    rw [p1, if_pos (by omega)] at HL1
    rcases place_cases l too with ⟨p2, _⟩ | ⟨j, y, p2, _, _, hj, _⟩
    · rw [p2, if_pos (by omega)] at HL2
      clear p1 p2
      go_wp2_with (first | (at_lookup; refine wpList_lookup_i rfl (.tmp 16) (.tmp 17) 168 true rfl Tryz.underlying168 Tryz.underlying3 (.agg #[.int .i64 0, .int .i64 0]) Tryz.zeroPart rfl frm rfl (HM.out.later (by first | exact Below.refl _ _ | exact below_alloc _ _)) (.tuple #[.agg #[.int .i64 0, .int .i64 0], .bool false]) (by rw [HL1.out]; rfl) ?_) | (at_lookup; refine wpList_lookup_i rfl (.tmp 22) (.tmp 23) 168 true rfl Tryz.underlying168 Tryz.underlying3 (.agg #[.int .i64 0, .int .i64 0]) Tryz.zeroPart rfl too rfl (HM.out.later (by first | exact Below.refl _ _ | exact below_alloc _ _)) (.tuple #[.agg #[.int .i64 0, .int .i64 0], .bool false]) (by rw [HL2.out]; rfl) ?_))
      exact bodyPost_ret (v := .tuple #[.agg #[.int .i64 0, .int .i64 0], .int .i64 5]) (by simp [results, Tryz.results103, go_sem, hc1, hz0, hz1]) rfl ⟨by rw [HR.out], by repeat (first | exact hB1 | refine Below.alloc ?_ (by first | omega | (simp; omega)) _ | refine Below.setCell ?_ (by simp) _)⟩
    · rw [p2, if_neg (by omega)] at HL2
      clear p1 p2
      go_wp2_with (first | (at_lookup; refine wpList_lookup_i rfl (.tmp 16) (.tmp 17) 168 true rfl Tryz.underlying168 Tryz.underlying3 (.agg #[.int .i64 0, .int .i64 0]) Tryz.zeroPart rfl frm rfl (HM.out.later (by first | exact Below.refl _ _ | exact below_alloc _ _)) (.tuple #[.agg #[.int .i64 0, .int .i64 0], .bool false]) (by rw [HL1.out]; rfl) ?_) | (at_lookup; refine wpList_lookup_i rfl (.tmp 22) (.tmp 23) 168 true rfl Tryz.underlying168 Tryz.underlying3 (.agg #[.int .i64 0, .int .i64 0]) Tryz.zeroPart rfl too rfl (HM.out.later (by first | exact Below.refl _ _ | exact below_alloc _ _)) (.tuple #[.agg #[.int .i64 (markB bs j), .int .i64 (markB bs (j + 1))], .bool true]) (by rw [HL2.out]; rfl) ?_))
      exact bodyPost_ret (v := .tuple #[.agg #[.int .i64 0, .int .i64 0], .int .i64 5]) (by simp [results, Tryz.results103, go_sem, hc1, hz0, hz1]) rfl ⟨by rw [HR.out], by repeat (first | exact hB1 | refine Below.alloc ?_ (by first | omega | (simp; omega)) _ | refine Below.setCell ?_ (by simp) _)⟩
  · rw [p1, if_neg (by omega)] at HL1
    rcases place_cases l too with ⟨p2, _⟩ | ⟨j, y, p2, _, _, hj, _⟩
    · have HR : Hid (runI l bs frm too = ((0, 0), 5)) := by show runI l bs frm too = _; rw [runI, p2, if_pos (.inr (by omega))]
      rw [p2, if_pos (by omega)] at HL2
      clear p1 p2
      go_wp2_with (first | (at_lookup; refine wpList_lookup_i rfl (.tmp 16) (.tmp 17) 168 true rfl Tryz.underlying168 Tryz.underlying3 (.agg #[.int .i64 0, .int .i64 0]) Tryz.zeroPart rfl frm rfl (HM.out.later (by first | exact Below.refl _ _ | exact below_alloc _ _)) (.tuple #[.agg #[.int .i64 (markB bs i), .int .i64 (markB bs (i + 1))], .bool true]) (by rw [HL1.out]; rfl) ?_) | (at_lookup; refine wpList_lookup_i rfl (.tmp 22) (.tmp 23) 168 true rfl Tryz.underlying168 Tryz.underlying3 (.agg #[.int .i64 0, .int .i64 0]) Tryz.zeroPart rfl too rfl (HM.out.later (by first | exact Below.refl _ _ | exact below_alloc _ _)) (.tuple #[.agg #[.int .i64 0, .int .i64 0], .bool false]) (by rw [HL2.out]; rfl) ?_))
      exact bodyPost_ret (v := .tuple #[.agg #[.int .i64 0, .int .i64 0], .int .i64 5]) (by simp [results, Tryz.results103, go_sem, hc1, hz0, hz1]) rfl ⟨by rw [HR.out], by repeat (first | exact hB1 | refine Below.alloc ?_ (by first | omega | (simp; omega)) _ | refine Below.setCell ?_ (by simp) _)⟩
    · rw [p2, if_neg (by omega)] at HL2
      by_cases hij : j < i
      · have HR : Hid (runI l bs frm too = ((0, 0), 1)) := by show runI l bs frm too = _; rw [runI, p1, p2, if_neg (by omega), if_pos (by omega)]
        have hm : markB bs ((j : Int) + 1) < markB bs ((i : Int) + 1) := by unfold markB; rw [if_neg (by omega), if_neg (by omega)]; omega
        clear p1 p2
        go_wp2_with (first | (at_lookup; refine wpList_lookup_i rfl (.tmp 16) (.tmp 17) 168 true rfl Tryz.underlying168 Tryz.underlying3 (.agg #[.int .i64 0, .int .i64 0]) Tryz.zeroPart rfl frm rfl (HM.out.later (by first | exact Below.refl _ _ | exact below_alloc _ _)) (.tuple #[.agg #[.int .i64 (markB bs i), .int .i64 (markB bs (i + 1))], .bool true]) (by rw [HL1.out]; rfl) ?_) | (at_lookup; refine wpList_lookup_i rfl (.tmp 22) (.tmp 23) 168 true rfl Tryz.underlying168 Tryz.underlying3 (.agg #[.int .i64 0, .int .i64 0]) Tryz.zeroPart rfl too rfl (HM.out.later (by first | exact Below.refl _ _ | exact below_alloc _ _)) (.tuple #[.agg #[.int .i64 (markB bs j), .int .i64 (markB bs (j + 1))], .bool true]) (by rw [HL2.out]; rfl) ?_))
        exact bodyPost_ret (v := .tuple #[.agg #[.int .i64 0, .int .i64 0], .int .i64 1]) (by simp [results, Tryz.results103, go_sem, hc1, hz0, hz1]) rfl ⟨by rw [HR.out], by repeat (first | exact hB1 | refine Below.alloc ?_ (by first | omega | (simp; omega)) _ | refine Below.setCell ?_ (by simp) _)⟩
      · have HR : Hid (runI l bs frm too = ((markB bs i, markB bs (j + 1)), 0)) := by show runI l bs frm too = _; rw [runI, p1, p2, if_neg (by omega), if_neg (by omega)]
        have hm : ¬ markB bs ((j : Int) + 1) < markB bs ((i : Int) + 1) := by unfold markB; rw [if_neg (by omega), if_neg (by omega)]; omega
        clear p1 p2
        go_wp2_with (first | (at_lookup; refine wpList_lookup_i rfl (.tmp 16) (.tmp 17) 168 true rfl Tryz.underlying168 Tryz.underlying3 (.agg #[.int .i64 0, .int .i64 0]) Tryz.zeroPart rfl frm rfl (HM.out.later (by first | exact Below.refl _ _ | exact below_alloc _ _)) (.tuple #[.agg #[.int .i64 (markB bs i), .int .i64 (markB bs (i + 1))], .bool true]) (by rw [HL1.out]; rfl) ?_) | (at_lookup; refine wpList_lookup_i rfl (.tmp 22) (.tmp 23) 168 true rfl Tryz.underlying168 Tryz.underlying3 (.agg #[.int .i64 0, .int .i64 0]) Tryz.zeroPart rfl too rfl (HM.out.later (by first | exact Below.refl _ _ | exact below_alloc _ _)) (.tuple #[.agg #[.int .i64 (markB bs j), .int .i64 (markB bs (j + 1))], .bool true]) (by rw [HL2.out]; rfl) ?_))
        exact bodyPost_ret (v := .tuple #[.agg #[.int .i64 (markB bs i), .int .i64 (markB bs (j + 1))], .int .i64 0]) (by simp [results, Tryz.results103, go_sem, hc1, hz0, hz1]) rfl ⟨by rw [HR.out], by repeat (first | exact hB1 | refine Below.alloc ?_ (by first | omega | (simp; omega)) _ | refine Below.setCell ?_ (by simp) _)⟩
end Go.Proofs.YtnedcclmfokdnaaGreat
namespace Go.Proofs.YtnedcclmfokdnaaGreat
open Go.RowKit
attribute [local go_sem] Rel RelAt RelUpon
theorem loadsV (room per : Value) (A : Option Addr) (n c : Nat) (vd vw : Value) (w : World) :
    Calls Tryz.prog 77 #[.agg #[room, per, .slice A n c, vd, vw]] w fun e w' => e = .returned (.agg #[.slice A n c, .int .i64 0]) ∧ Below w.heap.size w w' := by
  go_enter Tryz.func77, Tryz.ntmps77
  go_wp2
  exact bodyPost_ret (v := .agg #[.slice A n c, .int .i64 0]) (by simp [results, Tryz.results77, go_sem]) rfl ⟨rfl, below_then (below_alloc _ _) (below_alloc _ _)⟩
theorem drawsV (room per : Value) (A A2 : Option Addr) (n c n2 c2 : Nat) (vw : Value) (w : World) :
    Calls Tryz.prog 79 #[.agg #[room, per, .slice A n c, .slice A2 n2 c2, vw]] w fun e w' => e = .returned (.agg #[.slice A2 n2 c2, .int .i64 n]) ∧ Below w.heap.size w w' := by
  go_enter Tryz.func79, Tryz.ntmps79
  go_wp2
  exact bodyPost_ret (v := .agg #[.slice A2 n2 c2, .int .i64 n]) (by simp [results, Tryz.results79, go_sem]) rfl ⟨rfl, below_then (below_alloc _ _) (below_alloc _ _)⟩
def heldI (k : Kl) (h : Int) : Int × Int := (markB k.ls.length (cntLe k.ds h), markB 0 (cntLe k.ls h))
set_option maxRecDepth 100000 in
theorem held_c (k : Kl) (v : Value) (h : Int) (w : World) (hv : Kiln w v k) (hn : k.ls.length ≤ 20) :
    Calls Tryz.prog 106 #[v, .int .i64 h] w fun e w' => e = .returned (.agg #[.int .i64 (heldI k h).1, .int .i64 (heldI k h).2]) ∧ Below w.heap.size w w' := by
  obtain ⟨vl, vd, vw, rfl, hl, hd, _⟩ := id hv
  obtain ⟨A, cap, rfl, _, _, ha⟩ := id hl
  obtain ⟨A2, cap2, rfl, _, _, ha2⟩ := id hd
  clear ha ha2
  have HL := Lib.hid hl
  have HD := Lib.hid hd
  clear hl hd
  go_enter Tryz.func106, Tryz.ntmps106
  go_wp2_with fail
  refine wp_region_grown_tail 9 (by kernel_rfl) (by kernel_rfl) fun hcg => ?_
  simp only [List.take_succ_cons, List.take_zero, List.drop_succ_cons, List.drop_zero]
  repeat (go_big_quiet_step (first | (go_at_call 77; exact Calls.grown (loadsV _ _ _ _ _ _ _ _)) | (go_at_call 79; exact Calls.grown (drawsV _ _ _ _ _ _ _ _ _ _)) | (go_at_call 111; exact Calls.grown (byL_c k.ls _ _ _ _ (HL.out.later (below_then (below_then (below_alloc _ _) (below_alloc _ _)) (Gr.b _))) (by omega))) | (go_at_call 112; exact Calls.grown (byD_c k.ds _ _ _ _ (HD.out.later (below_then (below_then (below_alloc _ _) (below_alloc _ _)) (Gr.b _))) (by omega)))))
  refine wpQuiet_nil ?_
  intro _ hw'
  obtain ⟨g, hw''⟩ := hw'
  subst hw''
  have hfg := (bcell g.b).2
  have hgs := g.b.size
  simp only [World.size_alloc] at hgs
  have hlt : w.heap.size + 1 < g.val.heap.size := by omega
  go_wp2
  exact bodyPost_ret (v := .agg #[.int .i64 (markB k.ls.length (cntLe k.ds h)), .int .i64 (markB 0 (cntLe k.ls h))]) (by simp [results, Tryz.results106, go_sem, hcg]) rfl ⟨rfl, ((below_then (below_then (below_alloc _ _) (below_alloc _ _)) g.b).setCell (by simp) _).setCell (by simp) _⟩
def weighedI (k : Kl) (g : Wg) : (Int × Int) × Bool :=
  if g.kind = 1 then ((runI k.ls 0 g.frm g.too).1, (runI k.ls 0 g.frm g.too).2 == 0)
  else if g.kind = 2 then ((runI k.ds k.ls.length g.frm g.too).1, (runI k.ds k.ls.length g.frm g.too).2 == 0)
  else if g.kind = 3 ∧ inB g.frm 0 16384 = true ∧ g.too = 0 then (heldI k g.frm, true) else ((0, 0), false)
set_option maxRecDepth 100000 in
theorem weighed_c (k : Kl) (v : Value) (g : Wg) (w : World) (hv : Kiln w v k) (hn : k.ls.length ≤ 20) (h1 : NoTwice k.ls) (h2 : NoTwice k.ds) :
    Calls Tryz.prog 148 #[v, .agg #[.int .i64 g.id, .int .i64 g.kind, .int .i64 g.frm, .int .i64 g.too, .int .i64 g.lo, .int .i64 g.hi]] w
      fun e w' => e = .returned (.tuple #[.agg #[.int .i64 (weighedI k g).1.1, .int .i64 (weighedI k g).1.2], .bool (weighedI k g).2]) ∧ Below w.heap.size w w' := by
  obtain ⟨vl, vd, vw, rfl, hl, hd, _⟩ := id hv
  obtain ⟨A, cap, rfl, _, _, ha⟩ := id hl
  obtain ⟨A2, cap2, rfl, _, _, ha2⟩ := id hd
  clear ha ha2
  have HL := Lib.hid hl
  have HD := Lib.hid hd
  have N1 := Lib.hid h1
  have N2 := Lib.hid h2
  clear hl hd h1 h2
  obtain ⟨id, kind, frm, too, lo, hi⟩ := g
  dsimp only
  by_cases k1 : kind = 1
  · subst k1
    go_enter Tryz.func148, Tryz.ntmps148
    go_wp2_with fail
    refine wp_region_boxed 10 (by kernel_rfl) (by kernel_rfl) (by intro c a d v w h; cases d <;> exact h) fun hcg => ?_
    simp only [List.take_succ_cons, List.take_zero, List.drop_succ_cons, List.drop_zero]
    repeat (refine wpRel_step (fun K hK => ?_); go_simp; first | (refine hK _ ?_; clear hK K) | (apply Exists.intro; refine ⟨fun g => ?_, hK _ ?_⟩; (first | (go_at_call 77; exact loadsV _ _ _ _ _ _ _ _) | (go_at_call 102; exact runL_c k.ls _ _ _ _ _ (HL.out.later (below_then (below_then (below_then (below_alloc _ _) (below_alloc _ _)) (below_alloc _ _)) (Gr.b _))) (by omega) N1.out)); clear hK K))
    refine wpRel_nil fun g => ?_
    have hG := below_then (below_then (below_then (below_alloc w (.cells #[.int .i64 k.room, .int .i64 k.per, .slice A k.ls.length cap, .slice A2 k.ds.length cap2, vw] 26)) (below_alloc _ (.cells #[.int .i64 id, .int .i64 1, .int .i64 frm, .int .i64 too, .int .i64 lo, .int .i64 hi] 112))) (below_alloc _ (.cells #[.int .i64 0, .int .i64 0] 160))) g.b
    have hcg1 := (bcell g.b).1
    have hfg1 := (bcell g.b).2
    have hgs := g.b.size
    simp only [World.size_alloc] at hgs
    have hz0 : w.heap.size + 1 + 1 < g.val.heap.size := by omega
    have hz01 : w.heap.size + 1 < g.val.heap.size := by omega
    refine ⟨rfl, ?_⟩
    go_simp
    refine ⟨below_then g.b (below_alloc _ _), fun u hu => ?_⟩
    obtain ⟨hcu, hfu⟩ := bcell hu
    have hus := hu.size
    simp only [World.size_alloc] at hus
    have hz1 : g.val.heap.size < u.heap.size := by omega
    have hz1' : w.heap.size + 1 + 1 < u.heap.size := by omega
    refine ⟨rfl, ?_⟩
    go_simp
    have hBu := ((below_then hG (below_alloc _ _)).trans (hu.mono (by simp; omega)))
    refine ⟨(((below_then g.b (below_alloc _ _)).trans (hu.mono (by simp; omega))).setCell (by simp; omega) _).setCell (by simp; omega) _, fun u2 hu2 => ?_⟩
    obtain ⟨hcu2, hfu2⟩ := bcell hu2
    have hus2 := hu2.size
    simp [World.setCell] at hus2
    have hz2 : g.val.heap.size < u2.heap.size := by omega
    have hz2' : w.heap.size + 1 + 1 < u2.heap.size := by omega
    have hBu2 := ((hBu.setCell (p := ⟨g.val.heap.size, 0, none⟩) (by simp; omega) (.int .i64 (runI k.ls 0 frm too).fst.fst)).setCell (p := ⟨g.val.heap.size, 1, none⟩) (by simp; omega) (.int .i64 (runI k.ls 0 frm too).fst.snd)).trans (hu2.mono (by simp [World.setCell]; omega))
    refine ⟨rfl, ?_⟩
    go_simp
    refine ⟨?_, fun u3 hu3 => ?_⟩
    · exact ((((below_then g.b (below_alloc _ _)).trans (hu.mono (by simp; omega))).setCell (by simp; omega) _).setCell (by simp; omega) _).trans (hu2.mono (by simp [World.setCell]; omega))
    obtain ⟨hcu3, hfu3⟩ := bcell hu3
    have hz3' : w.heap.size + 1 + 1 < u3.heap.size := by have := hu3.size; omega
    have hBu3 := below_then hBu2 hu3
    have hr0 : u3.cell? ⟨w.heap.size + 1 + 1, 0, none⟩ = some (.int .i64 0) := by go_simp
    have hr1 : u3.cell? ⟨w.heap.size + 1 + 1, 1, none⟩ = some (.int .i64 0) := by go_simp
    have hp0 : u3.cell? ⟨g.val.heap.size, 0, none⟩ = some (.int .i64 (runI k.ls 0 frm too).fst.fst) := by go_simp
    have hp1 : u3.cell? ⟨g.val.heap.size, 1, none⟩ = some (.int .i64 (runI k.ls 0 frm too).fst.snd) := by go_simp
    have hr2 : u3.frozen? ⟨w.heap.size + 1 + 1, 0, none⟩ = false := by go_simp
    have hr3 : u3.frozen? ⟨w.heap.size + 1 + 1, 1, none⟩ = false := by go_simp
    clear hcu3 hfu3 hcu2 hfu2 hcu hfu hcg1 hfg1 hcg
    show Exit.then _ _ .normal _ _
    go_wp2
    exact bodyPost_ret (v := .tuple #[.agg #[.int .i64 (runI k.ls 0 frm too).1.1, .int .i64 (runI k.ls 0 frm too).1.2], .bool ((runI k.ls 0 frm too).2 == 0)]) (by simp [results, Tryz.results148, go_sem, hr0, hr1]) rfl ⟨rfl, by repeat (first | exact hBu3 | refine Below.alloc ?_ (by first | omega | (simp; omega)) _ | refine Below.setCell ?_ (by simp; omega) _)⟩
  · by_cases k2 : kind = 2
    · subst k2
      go_enter Tryz.func148, Tryz.ntmps148
      go_wp2_with fail
      refine wp_region_boxed 10 (by kernel_rfl) (by kernel_rfl) (by intro c a d v w h; cases d <;> exact h) fun hcg => ?_
      simp only [List.take_succ_cons, List.take_zero, List.drop_succ_cons, List.drop_zero]
      repeat (refine wpRel_step (fun K hK => ?_); go_simp; first | (refine hK _ ?_; clear hK K) | (apply Exists.intro; refine ⟨fun g => ?_, hK _ ?_⟩; (first | (go_at_call 79; exact drawsV _ _ _ _ _ _ _ _ _ _) | (go_at_call 103; exact runD_c k.ds _ _ _ _ _ (HD.out.later (below_then (below_then (below_then (below_alloc _ _) (below_alloc _ _)) (below_alloc _ _)) (Gr.b _))) (by omega) N2.out)); clear hK K))
      refine wpRel_nil fun g => ?_
      have hG := below_then (below_then (below_then (below_alloc w (.cells #[.int .i64 k.room, .int .i64 k.per, .slice A k.ls.length cap, .slice A2 k.ds.length cap2, vw] 26)) (below_alloc _ (.cells #[.int .i64 id, .int .i64 2, .int .i64 frm, .int .i64 too, .int .i64 lo, .int .i64 hi] 112))) (below_alloc _ (.cells #[.int .i64 0, .int .i64 0] 160))) g.b
      have hcg1 := (bcell g.b).1
      have hfg1 := (bcell g.b).2
      have hgs := g.b.size
      simp only [World.size_alloc] at hgs
      have hz0 : w.heap.size + 1 + 1 < g.val.heap.size := by omega
      have hz01 : w.heap.size + 1 < g.val.heap.size := by omega
      refine ⟨rfl, ?_⟩
      go_simp
      refine ⟨below_then g.b (below_alloc _ _), fun u hu => ?_⟩
      obtain ⟨hcu, hfu⟩ := bcell hu
      have hus := hu.size
      simp only [World.size_alloc] at hus
      have hz1 : g.val.heap.size < u.heap.size := by omega
      have hz1' : w.heap.size + 1 + 1 < u.heap.size := by omega
      refine ⟨rfl, ?_⟩
      go_simp
      have hBu := ((below_then hG (below_alloc _ _)).trans (hu.mono (by simp; omega)))
      refine ⟨(((below_then g.b (below_alloc _ _)).trans (hu.mono (by simp; omega))).setCell (by simp; omega) _).setCell (by simp; omega) _, fun u2 hu2 => ?_⟩
      obtain ⟨hcu2, hfu2⟩ := bcell hu2
      have hus2 := hu2.size
      simp [World.setCell] at hus2
      have hz2 : g.val.heap.size < u2.heap.size := by omega
      have hz2' : w.heap.size + 1 + 1 < u2.heap.size := by omega
      have hBu2 := ((hBu.setCell (p := ⟨g.val.heap.size, 0, none⟩) (by simp; omega) (.int .i64 (runI k.ds k.ls.length frm too).fst.fst)).setCell (p := ⟨g.val.heap.size, 1, none⟩) (by simp; omega) (.int .i64 (runI k.ds k.ls.length frm too).fst.snd)).trans (hu2.mono (by simp [World.setCell]; omega))
      refine ⟨rfl, ?_⟩
      go_simp
      refine ⟨?_, fun u3 hu3 => ?_⟩
      · exact ((((below_then g.b (below_alloc _ _)).trans (hu.mono (by simp; omega))).setCell (by simp; omega) _).setCell (by simp; omega) _).trans (hu2.mono (by simp [World.setCell]; omega))
      obtain ⟨hcu3, hfu3⟩ := bcell hu3
      have hz3' : w.heap.size + 1 + 1 < u3.heap.size := by have := hu3.size; omega
      have hBu3 := below_then hBu2 hu3
      have hr0 : u3.cell? ⟨w.heap.size + 1 + 1, 0, none⟩ = some (.int .i64 0) := by go_simp
      have hr1 : u3.cell? ⟨w.heap.size + 1 + 1, 1, none⟩ = some (.int .i64 0) := by go_simp
      have hp0 : u3.cell? ⟨g.val.heap.size, 0, none⟩ = some (.int .i64 (runI k.ds k.ls.length frm too).fst.fst) := by go_simp
      have hp1 : u3.cell? ⟨g.val.heap.size, 1, none⟩ = some (.int .i64 (runI k.ds k.ls.length frm too).fst.snd) := by go_simp
      have hr2 : u3.frozen? ⟨w.heap.size + 1 + 1, 0, none⟩ = false := by go_simp
      have hr3 : u3.frozen? ⟨w.heap.size + 1 + 1, 1, none⟩ = false := by go_simp
      clear hcu3 hfu3 hcu2 hfu2 hcu hfu hcg1 hfg1 hcg
      show Exit.then _ _ .normal _ _
      go_wp2
      exact bodyPost_ret (v := .tuple #[.agg #[.int .i64 (runI k.ds k.ls.length frm too).1.1, .int .i64 (runI k.ds k.ls.length frm too).1.2], .bool ((runI k.ds k.ls.length frm too).2 == 0)]) (by simp [results, Tryz.results148, go_sem, hr0, hr1]) rfl ⟨rfl, by repeat (first | exact hBu3 | refine Below.alloc ?_ (by first | omega | (simp; omega)) _ | refine Below.setCell ?_ (by simp; omega) _)⟩
    · have hB0 := below_then (below_then (below_alloc w (.cells #[.int .i64 k.room, .int .i64 k.per, .slice A k.ls.length cap, .slice A2 k.ds.length cap2, vw] 26)) (below_alloc _ (.cells #[.int .i64 id, .int .i64 kind, .int .i64 frm, .int .i64 too, .int .i64 lo, .int .i64 hi] 112))) (below_alloc _ (.cells #[.int .i64 0, .int .i64 0] 160))
      by_cases k3 : kind = 3
      · subst k3
        rcases Bool.eq_false_or_eq_true (inB frm 0 16384) with h3 | h3
        · by_cases h4 : too = 0
          · subst h4
            have HR : Hid (weighedI k ⟨id, 3, frm, 0, lo, hi⟩ = (heldI k frm, true)) := by show weighedI _ _ = _; simp [weighedI, h3]
            go_enter Tryz.func148, Tryz.ntmps148
            go_wp2_with fail
            refine (isHour_c _ _).mono ?_
            rintro e w1 ⟨rfl, rfl⟩
            go_wp2_with fail
            refine (held_c k _ _ _ (hv.later hB0) hn).mono ?_
            rintro e w1 ⟨rfl, hb1⟩
            obtain ⟨hc1, hf1⟩ := bcell hb1
            have hs1 := hb1.size
            simp only [World.size_alloc] at hs1
            have hz : w.heap.size + 1 + 1 < w1.heap.size := by omega
            go_wp2
            exact bodyPost_ret (v := .tuple #[.agg #[.int .i64 (heldI k frm).1, .int .i64 (heldI k frm).2], .bool true]) (by simp [results, Tryz.results148, go_sem, hc1]) rfl ⟨by rw [HR.out], ((below_then hB0 hb1).setCell (by simp; omega) _).setCell (by simp; omega) _⟩
          · have h5 : (too == 0) = false := by simp [h4]
            have HR : Hid (weighedI k ⟨id, 3, frm, too, lo, hi⟩ = ((0, 0), false)) := by show weighedI _ _ = _; simp [weighedI, h4]
            clear h4
            go_enter Tryz.func148, Tryz.ntmps148
            go_wp2_with fail
            refine (isHour_c _ _).mono ?_
            rintro e w1 ⟨rfl, rfl⟩
            go_wp2
            exact bodyPost_ret (v := .tuple #[.agg #[.int .i64 0, .int .i64 0], .bool false]) (by simp [results, Tryz.results148, go_sem]) rfl ⟨by rw [HR.out], hB0⟩
        · have HR : Hid (weighedI k ⟨id, 3, frm, too, lo, hi⟩ = ((0, 0), false)) := by show weighedI _ _ = _; simp [weighedI, h3]
          go_enter Tryz.func148, Tryz.ntmps148
          go_wp2_with fail
          refine (isHour_c _ _).mono ?_
          rintro e w1 ⟨rfl, rfl⟩
          go_wp2
          exact bodyPost_ret (v := .tuple #[.agg #[.int .i64 0, .int .i64 0], .bool false]) (by simp [results, Tryz.results148, go_sem]) rfl ⟨by rw [HR.out], hB0⟩
      · have HR : Hid (weighedI k ⟨id, kind, frm, too, lo, hi⟩ = ((0, 0), false)) := by show weighedI _ _ = _; simp [weighedI, k1, k2, k3]
        have e1 : (kind == 1) = false := by simp [k1]
        have e2 : (kind == 2) = false := by simp [k2]
        have e3 : (kind == 3) = false := by simp [k3]
        clear k1 k2 k3
        go_enter Tryz.func148, Tryz.ntmps148
        go_wp2
        exact bodyPost_ret (v := .tuple #[.agg #[.int .i64 0, .int .i64 0], .bool false]) (by simp [results, Tryz.results148, go_sem]) rfl ⟨by rw [HR.out], hB0⟩
end Go.Proofs.YtnedcclmfokdnaaGreat
namespace Go.Proofs.YtnedcclmfokdnaaGreat
open Go.RowKit
theorem map_ne_cells {w : World} {r b o : Nat} {L : List (Int × Value)} {v : Value} (h : IMap w r L) (hc : w.cell? ⟨b, o, none⟩ = some v) : b ≠ r := by
  rintro rfl
  obtain ⟨es, c, hh, _⟩ := h
  simp [World.cell?, hh] at hc
theorem grown_cell {W W' : World} {r : Nat} (hg : W.grownBy W' (some r)) : (∀ b o, b < W.heap.size → b ≠ r → W'.cell? ⟨b, o, none⟩ = W.cell? ⟨b, o, none⟩) ∧ (∀ b o, b < W.heap.size → b ≠ r → W'.frozen? ⟨b, o, none⟩ = W.frozen? ⟨b, o, none⟩) :=
  ⟨fun b o hb hne => World.cell?_of_block (hg.block b hb (fun e => hne (by injection e))), fun b o hb hne => World.frozen?_of_block (hg.block b hb (fun e => hne (by injection e)))⟩
theorem Sl.mapped {α : Type} {c : α → List Value} {s : Nat} {w w' : World} {v : Value} {l : List α} {r : Nat} {L : List (Int × Value)} (h : Sl c s w w.heap.size v l) (hc : ∀ x, c x ≠ [])
    (hm : IMap w r L) (hg : w.grownBy w' (some r)) : Sl c s w' w'.heap.size v l := by
  obtain ⟨A, cap, e, h1, h2, h3⟩ := h
  refine ⟨A, cap, e, h1, h2, fun hn => ?_⟩
  obtain ⟨b, off, e2, hb, hat⟩ := h3 hn
  have hne : b ≠ r := by
    have h0 := List.getElem?_eq_getElem hn
    cases hcx : c l[0] with
    | nil => exact absurd hcx (hc _)
    | cons u us => exact map_ne_cells hm (hat 0 _ h0 0 u (by rw [hcx]; rfl))
  exact ⟨b, off, e2, Nat.lt_of_lt_of_le hb hg.size, fun i x hx j u hu => ((grown_cell hg).1 b _ hb hne).trans (hat i x hx j u hu)⟩
theorem grown_below {W w1 w2 : World} {r : Nat} (hg : W.grownBy w1 (some r)) (hb : Below w1.heap.size w1 w2) : W.grownBy w2 (some r) :=
  ⟨hb.os.trans hg.os, hb.tape.trans hg.tape, hb.output.trans hg.output, Nat.le_trans hg.size hb.size, fun i hi hne => (hb.block i (Nat.lt_of_lt_of_le hi hg.size)).trans (hg.block i hi hne)⟩
theorem below_grownBy {W w1 : World} (hb : Below W.heap.size W w1) (row : Option Nat) : W.grownBy w1 row := ⟨hb.os, hb.tape, hb.output, hb.size, fun i hi _ => hb.block i hi⟩
theorem grown_trans' {a b c : World} {r : Nat} (h : a.grownBy b (some r)) (k : b.grownBy c (some r)) : a.grownBy c (some r) :=
  ⟨k.os.trans h.os, k.tape.trans h.tape, k.output.trans h.output, Nat.le_trans h.size k.size, fun i hi hne => (k.block i (Nat.lt_of_lt_of_le hi h.size) hne).trans (h.block i hi hne)⟩
def seenL (S : List Int) : List (Int × Value) := S.map fun n => (n, .bool true)
theorem seen_lookup (S : List Int) (n : Int) : (seenL S).lookup n = if n ∈ S then some (.bool true) else none := by
  induction S with
  | nil => simp [seenL]
  | cons a S ih =>
    rw [seenL, List.map_cons, List.lookup_cons]
    by_cases e : n = a
    · subst e; simp
    · rw [show (n == a) = false by simpa using e]
      have : (seenL S).lookup n = _ := ih
      rw [seenL] at this
      simp only [this, List.mem_cons, e, false_or]
def rowsI : List Rec → Int → List Int → Int
  | [], _, _ => 0
  | x :: l, h, S => if recordB x.id x.hour x.lo x.hi h = false then 1 else if x.id ∈ S then 6 else rowsI l x.hour (S ++ [x.id])
theorem rows_step {l : List Rec} {j : Nat} {x : Rec} {h : Int} {S : List Int} (hx : l[j]? = some x) : rowsI (l.drop j) h S = if recordB x.id x.hour x.lo x.hi h = false then 1 else if x.id ∈ S then 6 else rowsI (l.drop (j + 1)) x.hour (S ++ [x.id]) := by
  obtain ⟨hl, e⟩ := List.getElem?_eq_some_iff.1 hx
  rw [List.drop_eq_getElem_cons hl, e, rowsI]
theorem Tryz.zeroBool (w : World) : (zeroValue 4).run Tryz.prog w = .ok (.bool false) w := by kernel_rfl
set_option maxRecDepth 100000 in
theorem checkL_c (l : List Rec) (v : Value) (bs : Int) (r : Nat) (S : List Int) (w : World) (hv : Recs w w.heap.size v l) (hm : IMap w r (seenL S)) :
    Calls Tryz.prog 78 #[.agg #[v, .int .i64 bs], .map (some r)] w fun e w' => e = .returned (.int .i64 (rowsI l 0 S)) ∧ w.grownBy w' (some r) ∧ (rowsI l 0 S = 0 → IMap w' r (seenL (S ++ l.map (·.id)))) := by
  obtain ⟨A, cap, rfl, _, hn, hat0⟩ := id hv
  clear hat0
  have hrw := hm.lt
  have hm1 := hm.later (below_alloc w (.cells #[.slice A l.length cap, .int .i64 bs] 130))
  have hv1 := hv.later (below_alloc w (.cells #[.slice A l.length cap, .int .i64 bs] 130))
  have HV := Lib.hid hv1
  have HM1 := Lib.hid hm1
  clear hv hm hv1 hm1
  go_enter Tryz.func78, Tryz.ntmps78
  go_wp2
  go_loopw [5, 11] (fun hh i wr => ∃ (j : Nat) (h : Int), j ≤ l.length ∧ i = .int .i64 j ∧ hh = .int .i64 h ∧ 0 ≤ h ∧ Hid (IMap wr r (seenL (S ++ (l.take j).map (·.id)))) ∧ Hid (rowsI l 0 S = rowsI (l.drop j) h (S ++ (l.take j).map (·.id))) ∧
      (w.alloc (.cells #[.slice A l.length cap, .int .i64 bs] 130)).grownBy wr (some r)) (fun _ i _ => l.length - (intOf i).toNat)
  case atStart => exact ⟨0, 0, Nat.zero_le _, rfl, rfl, by omega, by show IMap _ _ _; simpa using HM1.out, by show rowsI l 0 S = _; simp, World.grownBy.refl _ _⟩
  case round =>
    obtain ⟨j, h, hj, rfl, rfl, hh0, HM, HR, hg⟩ := hrel
    obtain ⟨hc, hf⟩ := grown_cell hg
    have hgs := hg.size
    simp only [World.size_alloc] at hgs
    have hz : w.heap.size < wr.heap.size := by omega
    have hne : w.heap.size ≠ r := by omega
    have hG0 := grown_trans' (below_grownBy (below_alloc w (.cells #[.slice A l.length cap, .int .i64 bs] 130)) (some r)) hg
    by_cases hlt : j < l.length
    · obtain ⟨x, hx0⟩ : ∃ x, l[j]? = some x := ⟨_, List.getElem?_eq_getElem hlt⟩
      have hst := rows_step (h := h) (S := S ++ (l.take j).map (·.id)) hx0
      have hx := Lib.hid hx0
      clear hx0
      have HV2 := Lib.hid (HV.out.mapped (fun x => by simp [rC]) HM1.out hg)
      have hrow : recordB x.id x.hour x.lo x.hi h = (inB x.id 1 1099511627776 && inB x.hour 0 16384 && !(decide (x.hour < h)) && spanB x.lo x.hi 1048576) := by
        have e1 : inB x.hour (max 0 h) 16384 = (inB x.hour 0 16384 && !(decide (x.hour < h))) := by
          unfold inB; rw [Bool.eq_iff_iff]; simp; omega
        unfold recordB
        rw [e1]
        cases spanB x.lo x.hi 1048576 <;> cases inB x.id 1 1099511627776 <;> cases inB x.hour 0 16384 <;> cases decide (x.hour < h) <;> rfl
      have HST := Lib.hid hst
      have HROW := Lib.hid hrow
      clear hst hrow
      go_wp2_with fail
      refine (atL_c l _ _ j x _ HV2.out hx.out).mono ?_
      rintro e w1 ⟨rfl, hb1⟩
      obtain ⟨hc1, hf1⟩ := bcell hb1
      have hs1 := hb1.size
      have hz1 : w.heap.size < w1.heap.size := by omega
      rcases Bool.eq_false_or_eq_true (inB x.id 1 1099511627776) with q1 | q1
      · rcases Bool.eq_false_or_eq_true (inB x.hour 0 16384) with q2 | q2
        · by_cases q3 : x.hour < h
          · have H1 : Hid (rowsI l 0 S = 1) := by show rowsI l 0 S = 1; rw [HR.out, HST.out, if_pos (by rw [HROW.out]; simp [q3])]
            go_wp2_with fail
            refine (isID_c _ _).mono ?_
            rintro e w2 ⟨rfl, rfl⟩
            go_wp2_with fail
            refine (isHour_c _ _).mono ?_
            rintro e w2 ⟨rfl, rfl⟩
            go_wp2_with fail
            go_ret
            exact ⟨ret_int H1.out.symm, grown_below hG0 (below_then hb1 (below_alloc _ _)), fun e => by rw [H1.out] at e; omega⟩
          · rcases Bool.eq_false_or_eq_true (spanB x.lo x.hi 1048576) with q4 | q4
            · by_cases hin : x.id ∈ S ++ (l.take j).map (·.id)
              · have H6 : Hid (rowsI l 0 S = 6) := by show rowsI l 0 S = 6; rw [HR.out, HST.out, if_neg (by rw [HROW.out]; simp [q1, q2, q3, q4]), if_pos hin]
                have HIN := Lib.hid hin
                clear hin
                go_wp2_with fail
                refine (isID_c _ _).mono ?_
                rintro e w2 ⟨rfl, rfl⟩
                go_wp2_with fail
                refine (isHour_c _ _).mono ?_
                rintro e w2 ⟨rfl, rfl⟩
                go_wp2_with fail
                refine (isSpan_c _ _ _ _).mono ?_
                rintro e w3 ⟨rfl, hb3⟩
                obtain ⟨hc3, hf3⟩ := bcell hb3
                have hs3 := hb3.size
                simp only [World.size_alloc] at hs3
                have hz3 : w1.heap.size < w3.heap.size := by omega
                have hB3 := below_then (below_then hb1 (below_alloc _ _)) hb3
                have HM3 := Lib.hid (HM.out.later hB3)
                go_wp2_with (at_lookup; refine wpList_lookup_i rfl _ _ 128 false rfl Tryz.underlying128 Tryz.underlying3 (.bool false) Tryz.zeroBool rfl x.id rfl HM3.out (.bool true) (by rw [seen_lookup, if_pos HIN.out]; rfl) ?_)
                go_wp2_with fail
                go_ret
                exact ⟨ret_int H6.out.symm, grown_below hG0 hB3, fun e => by rw [H6.out] at e; omega⟩
              · have HN : Hid (rowsI l 0 S = rowsI (l.drop (j + 1)) x.hour (S ++ (l.take (j + 1)).map (·.id))) := by
                  show rowsI l 0 S = _
                  rw [HR.out, HST.out, if_neg (by rw [HROW.out]; simp [q1, q2, q3, q4]), if_neg hin, take_map_snoc _ hx.out, List.append_assoc]
                have HIN := Lib.hid hin
                clear hin
                have hh1 : 0 ≤ x.hour := (inB_iff.1 q2).1
                go_wp2_with fail
                refine (isID_c _ _).mono ?_
                rintro e w2 ⟨rfl, rfl⟩
                go_wp2_with fail
                refine (isHour_c _ _).mono ?_
                rintro e w2 ⟨rfl, rfl⟩
                go_wp2_with fail
                refine (isSpan_c _ _ _ _).mono ?_
                rintro e w3 ⟨rfl, hb3⟩
                obtain ⟨hc3, hf3⟩ := bcell hb3
                have hs3 := hb3.size
                simp only [World.size_alloc] at hs3
                have hz3 : w1.heap.size < w3.heap.size := by omega
                have hB3 := below_then (below_then hb1 (below_alloc _ _)) hb3
                have HM3 := Lib.hid (HM.out.later hB3)
                go_wp2_with (first | (at_lookup; refine wpList_lookup_i rfl _ _ 128 false rfl Tryz.underlying128 Tryz.underlying3 (.bool false) Tryz.zeroBool rfl x.id rfl HM3.out (.bool false) (by rw [seen_lookup, if_neg HIN.out]; rfl) ?_) | (at_mapUpdate; refine wpList_mapUpdate_new rfl _ _ _ 128 rfl Tryz.underlying128 Tryz.underlying3 rfl x.id rfl (.bool true) rfl HM3.out (by rw [seen_lookup, if_neg HIN.out]) ?_))
                intro w4 hm4 hg4
                obtain ⟨hc4, hf4⟩ := grown_cell hg4
                have hne1 : w1.heap.size ≠ r := by omega
                have hgn := grown_trans' (grown_below hg hB3) hg4
                clear hg4
                go_wp2_with fail
                go_roundw
                case rel => exact ⟨j + 1, x.hour, by omega, by go_num, rfl, hh1, by
                  show IMap w4 r (seenL _)
                  have e : seenL (S ++ (l.take (j + 1)).map (·.id)) = seenL (S ++ List.take j (List.map (fun x => x.id) l)) ++ [(x.id, .bool true)] := by
                    rw [take_map_snoc _ hx.out, ← List.append_assoc, seenL, List.map_append, List.map_take]; rfl
                  rw [e]; exact hm4, HN, hgn⟩
                case measure => simp [intOf]; omega
            · have H1 : Hid (rowsI l 0 S = 1) := by show rowsI l 0 S = 1; rw [HR.out, HST.out, if_pos (by rw [HROW.out]; simp [q4])]
              go_wp2_with fail
              refine (isID_c _ _).mono ?_
              rintro e w2 ⟨rfl, rfl⟩
              go_wp2_with fail
              refine (isHour_c _ _).mono ?_
              rintro e w2 ⟨rfl, rfl⟩
              go_wp2_with fail
              refine (isSpan_c _ _ _ _).mono ?_
              rintro e w3 ⟨rfl, hb3⟩
              obtain ⟨hc3, hf3⟩ := bcell hb3
              have hs3 := hb3.size
              simp only [World.size_alloc] at hs3
              have hz3 : w1.heap.size < w3.heap.size := by omega
              have hB3 := below_then (below_then hb1 (below_alloc _ _)) hb3
              have HM3 := Lib.hid (HM.out.later hB3)
              go_wp2_with fail
              go_ret
              exact ⟨ret_int H1.out.symm, grown_below hG0 (hB3), fun e => by rw [H1.out] at e; omega⟩
        · have H1 : Hid (rowsI l 0 S = 1) := by show rowsI l 0 S = 1; rw [HR.out, HST.out, if_pos (by rw [HROW.out]; simp [q2])]
          go_wp2_with fail
          refine (isID_c _ _).mono ?_
          rintro e w2 ⟨rfl, rfl⟩
          go_wp2_with fail
          refine (isHour_c _ _).mono ?_
          rintro e w2 ⟨rfl, rfl⟩
          go_wp2_with fail
          go_ret
          exact ⟨ret_int H1.out.symm, grown_below hG0 (below_then hb1 (below_alloc _ _)), fun e => by rw [H1.out] at e; omega⟩
      · have H1 : Hid (rowsI l 0 S = 1) := by show rowsI l 0 S = 1; rw [HR.out, HST.out, if_pos (by rw [HROW.out]; simp [q1])]
        go_wp2_with fail
        refine (isID_c _ _).mono ?_
        rintro e w2 ⟨rfl, rfl⟩
        go_wp2_with fail
        go_ret
        exact ⟨ret_int H1.out.symm, grown_below hG0 (below_then hb1 (below_alloc _ _)), fun e => by rw [H1.out] at e; omega⟩
    · obtain rfl : j = l.length := by omega
      have H0 : Hid (rowsI l 0 S = 0) := by show rowsI l 0 S = 0; rw [HR.out, List.drop_length, rowsI]
      go_wp2
      go_ret
      exact ⟨ret_int H0.out.symm, hG0, fun _ => by have := HM.out; rwa [List.take_length] at this⟩
set_option maxRecDepth 100000 in
theorem checkD_c (l : List Rec) (v : Value) (bs : Int) (r : Nat) (S : List Int) (w : World) (hv : Recs w w.heap.size v l) (hm : IMap w r (seenL S)) :
    Calls Tryz.prog 80 #[.agg #[v, .int .i64 bs], .map (some r)] w fun e w' => e = .returned (.int .i64 (rowsI l 0 S)) ∧ w.grownBy w' (some r) ∧ (rowsI l 0 S = 0 → IMap w' r (seenL (S ++ l.map (·.id)))) := by
  obtain ⟨A, cap, rfl, _, hn, hat0⟩ := id hv
  clear hat0
  have hrw := hm.lt
  have hm1 := hm.later (below_alloc w (.cells #[.slice A l.length cap, .int .i64 bs] 134))
  have hv1 := hv.later (below_alloc w (.cells #[.slice A l.length cap, .int .i64 bs] 134))
  have HV := Lib.hid hv1
  have HM1 := Lib.hid hm1
  clear hv hm hv1 hm1
  go_enter Tryz.func80, Tryz.ntmps80
  go_wp2
  go_loopw [5, 11] (fun hh i wr => ∃ (j : Nat) (h : Int), j ≤ l.length ∧ i = .int .i64 j ∧ hh = .int .i64 h ∧ 0 ≤ h ∧ Hid (IMap wr r (seenL (S ++ (l.take j).map (·.id)))) ∧ Hid (rowsI l 0 S = rowsI (l.drop j) h (S ++ (l.take j).map (·.id))) ∧
      (w.alloc (.cells #[.slice A l.length cap, .int .i64 bs] 134)).grownBy wr (some r)) (fun _ i _ => l.length - (intOf i).toNat)
  case atStart => exact ⟨0, 0, Nat.zero_le _, rfl, rfl, by omega, by show IMap _ _ _; simpa using HM1.out, by show rowsI l 0 S = _; simp, World.grownBy.refl _ _⟩
  case round =>
    obtain ⟨j, h, hj, rfl, rfl, hh0, HM, HR, hg⟩ := hrel
    obtain ⟨hc, hf⟩ := grown_cell hg
    have hgs := hg.size
    simp only [World.size_alloc] at hgs
    have hz : w.heap.size < wr.heap.size := by omega
    have hne : w.heap.size ≠ r := by omega
    have hG0 := grown_trans' (below_grownBy (below_alloc w (.cells #[.slice A l.length cap, .int .i64 bs] 134)) (some r)) hg
    by_cases hlt : j < l.length
    · obtain ⟨x, hx0⟩ : ∃ x, l[j]? = some x := ⟨_, List.getElem?_eq_getElem hlt⟩
      have hst := rows_step (h := h) (S := S ++ (l.take j).map (·.id)) hx0
      have hx := Lib.hid hx0
      clear hx0
      have HV2 := Lib.hid (HV.out.mapped (fun x => by simp [rC]) HM1.out hg)
      have hrow : recordB x.id x.hour x.lo x.hi h = (inB x.id 1 1099511627776 && inB x.hour 0 16384 && !(decide (x.hour < h)) && spanB x.lo x.hi 1048576) := by
        have e1 : inB x.hour (max 0 h) 16384 = (inB x.hour 0 16384 && !(decide (x.hour < h))) := by
          unfold inB; rw [Bool.eq_iff_iff]; simp; omega
        unfold recordB
        rw [e1]
        cases spanB x.lo x.hi 1048576 <;> cases inB x.id 1 1099511627776 <;> cases inB x.hour 0 16384 <;> cases decide (x.hour < h) <;> rfl
      have HST := Lib.hid hst
      have HROW := Lib.hid hrow
      clear hst hrow
      go_wp2_with fail
      refine (atD_c l _ _ j x _ HV2.out hx.out).mono ?_
      rintro e w1 ⟨rfl, hb1⟩
      obtain ⟨hc1, hf1⟩ := bcell hb1
      have hs1 := hb1.size
      have hz1 : w.heap.size < w1.heap.size := by omega
      rcases Bool.eq_false_or_eq_true (inB x.id 1 1099511627776) with q1 | q1
      · rcases Bool.eq_false_or_eq_true (inB x.hour 0 16384) with q2 | q2
        · by_cases q3 : x.hour < h
          · have H1 : Hid (rowsI l 0 S = 1) := by show rowsI l 0 S = 1; rw [HR.out, HST.out, if_pos (by rw [HROW.out]; simp [q3])]
            go_wp2_with fail
            refine (isID_c _ _).mono ?_
            rintro e w2 ⟨rfl, rfl⟩
            go_wp2_with fail
            refine (isHour_c _ _).mono ?_
            rintro e w2 ⟨rfl, rfl⟩
            go_wp2_with fail
            go_ret
            exact ⟨ret_int H1.out.symm, grown_below hG0 (below_then hb1 (below_alloc _ _)), fun e => by rw [H1.out] at e; omega⟩
          · rcases Bool.eq_false_or_eq_true (spanB x.lo x.hi 1048576) with q4 | q4
            · by_cases hin : x.id ∈ S ++ (l.take j).map (·.id)
              · have H6 : Hid (rowsI l 0 S = 6) := by show rowsI l 0 S = 6; rw [HR.out, HST.out, if_neg (by rw [HROW.out]; simp [q1, q2, q3, q4]), if_pos hin]
                have HIN := Lib.hid hin
                clear hin
                go_wp2_with fail
                refine (isID_c _ _).mono ?_
                rintro e w2 ⟨rfl, rfl⟩
                go_wp2_with fail
                refine (isHour_c _ _).mono ?_
                rintro e w2 ⟨rfl, rfl⟩
                go_wp2_with fail
                refine (isSpan_c _ _ _ _).mono ?_
                rintro e w3 ⟨rfl, hb3⟩
                obtain ⟨hc3, hf3⟩ := bcell hb3
                have hs3 := hb3.size
                simp only [World.size_alloc] at hs3
                have hz3 : w1.heap.size < w3.heap.size := by omega
                have hB3 := below_then (below_then hb1 (below_alloc _ _)) hb3
                have HM3 := Lib.hid (HM.out.later hB3)
                go_wp2_with (at_lookup; refine wpList_lookup_i rfl _ _ 128 false rfl Tryz.underlying128 Tryz.underlying3 (.bool false) Tryz.zeroBool rfl x.id rfl HM3.out (.bool true) (by rw [seen_lookup, if_pos HIN.out]; rfl) ?_)
                go_wp2_with fail
                go_ret
                exact ⟨ret_int H6.out.symm, grown_below hG0 hB3, fun e => by rw [H6.out] at e; omega⟩
              · have HN : Hid (rowsI l 0 S = rowsI (l.drop (j + 1)) x.hour (S ++ (l.take (j + 1)).map (·.id))) := by
                  show rowsI l 0 S = _
                  rw [HR.out, HST.out, if_neg (by rw [HROW.out]; simp [q1, q2, q3, q4]), if_neg hin, take_map_snoc _ hx.out, List.append_assoc]
                have HIN := Lib.hid hin
                clear hin
                have hh1 : 0 ≤ x.hour := (inB_iff.1 q2).1
                go_wp2_with fail
                refine (isID_c _ _).mono ?_
                rintro e w2 ⟨rfl, rfl⟩
                go_wp2_with fail
                refine (isHour_c _ _).mono ?_
                rintro e w2 ⟨rfl, rfl⟩
                go_wp2_with fail
                refine (isSpan_c _ _ _ _).mono ?_
                rintro e w3 ⟨rfl, hb3⟩
                obtain ⟨hc3, hf3⟩ := bcell hb3
                have hs3 := hb3.size
                simp only [World.size_alloc] at hs3
                have hz3 : w1.heap.size < w3.heap.size := by omega
                have hB3 := below_then (below_then hb1 (below_alloc _ _)) hb3
                have HM3 := Lib.hid (HM.out.later hB3)
                go_wp2_with (first | (at_lookup; refine wpList_lookup_i rfl _ _ 128 false rfl Tryz.underlying128 Tryz.underlying3 (.bool false) Tryz.zeroBool rfl x.id rfl HM3.out (.bool false) (by rw [seen_lookup, if_neg HIN.out]; rfl) ?_) | (at_mapUpdate; refine wpList_mapUpdate_new rfl _ _ _ 128 rfl Tryz.underlying128 Tryz.underlying3 rfl x.id rfl (.bool true) rfl HM3.out (by rw [seen_lookup, if_neg HIN.out]) ?_))
                intro w4 hm4 hg4
                obtain ⟨hc4, hf4⟩ := grown_cell hg4
                have hne1 : w1.heap.size ≠ r := by omega
                have hgn := grown_trans' (grown_below hg hB3) hg4
                clear hg4
                go_wp2_with fail
                go_roundw
                case rel => exact ⟨j + 1, x.hour, by omega, by go_num, rfl, hh1, by
                  show IMap w4 r (seenL _)
                  have e : seenL (S ++ (l.take (j + 1)).map (·.id)) = seenL (S ++ List.take j (List.map (fun x => x.id) l)) ++ [(x.id, .bool true)] := by
                    rw [take_map_snoc _ hx.out, ← List.append_assoc, seenL, List.map_append, List.map_take]; rfl
                  rw [e]; exact hm4, HN, hgn⟩
                case measure => simp [intOf]; omega
            · have H1 : Hid (rowsI l 0 S = 1) := by show rowsI l 0 S = 1; rw [HR.out, HST.out, if_pos (by rw [HROW.out]; simp [q4])]
              go_wp2_with fail
              refine (isID_c _ _).mono ?_
              rintro e w2 ⟨rfl, rfl⟩
              go_wp2_with fail
              refine (isHour_c _ _).mono ?_
              rintro e w2 ⟨rfl, rfl⟩
              go_wp2_with fail
              refine (isSpan_c _ _ _ _).mono ?_
              rintro e w3 ⟨rfl, hb3⟩
              obtain ⟨hc3, hf3⟩ := bcell hb3
              have hs3 := hb3.size
              simp only [World.size_alloc] at hs3
              have hz3 : w1.heap.size < w3.heap.size := by omega
              have hB3 := below_then (below_then hb1 (below_alloc _ _)) hb3
              have HM3 := Lib.hid (HM.out.later hB3)
              go_wp2_with fail
              go_ret
              exact ⟨ret_int H1.out.symm, grown_below hG0 (hB3), fun e => by rw [H1.out] at e; omega⟩
        · have H1 : Hid (rowsI l 0 S = 1) := by show rowsI l 0 S = 1; rw [HR.out, HST.out, if_pos (by rw [HROW.out]; simp [q2])]
          go_wp2_with fail
          refine (isID_c _ _).mono ?_
          rintro e w2 ⟨rfl, rfl⟩
          go_wp2_with fail
          refine (isHour_c _ _).mono ?_
          rintro e w2 ⟨rfl, rfl⟩
          go_wp2_with fail
          go_ret
          exact ⟨ret_int H1.out.symm, grown_below hG0 (below_then hb1 (below_alloc _ _)), fun e => by rw [H1.out] at e; omega⟩
      · have H1 : Hid (rowsI l 0 S = 1) := by show rowsI l 0 S = 1; rw [HR.out, HST.out, if_pos (by rw [HROW.out]; simp [q1])]
        go_wp2_with fail
        refine (isID_c _ _).mono ?_
        rintro e w2 ⟨rfl, rfl⟩
        go_wp2_with fail
        go_ret
        exact ⟨ret_int H1.out.symm, grown_below hG0 (below_then hb1 (below_alloc _ _)), fun e => by rw [H1.out] at e; omega⟩
    · obtain rfl : j = l.length := by omega
      have H0 : Hid (rowsI l 0 S = 0) := by show rowsI l 0 S = 0; rw [HR.out, List.drop_length, rowsI]
      go_wp2
      go_ret
      exact ⟨ret_int H0.out.symm, hG0, fun _ => by have := HM.out; rwa [List.take_length] at this⟩
end Go.Proofs.YtnedcclmfokdnaaGreat
namespace Go.Proofs.YtnedcclmfokdnaaGreat
open Go.RowKit
theorem Kiln.mapped {w w' : World} {v : Value} {k : Kl} {r : Nat} {L : List (Int × Value)} (h : Kiln w v k) (hm : IMap w r L) (hg : w.grownBy w' (some r)) : Kiln w' v k := by
  obtain ⟨a, b, c, e, h1, h2, h3⟩ := h
  exact ⟨a, b, c, e, h1.mapped (fun x => by simp [rC]) hm hg, h2.mapped (fun x => by simp [rC]) hm hg, h3.mapped (fun x => by simp [wC]) hm hg⟩
def wgsI (k : Kl) : List Wg → List Int → Int
  | [], _ => 0
  | g :: l, S => if weighB k g = false then 1 else if g.id ∈ S then 6 else wgsI k l (S ++ [g.id])
theorem wgs_step {k : Kl} {l : List Wg} {j : Nat} {x : Wg} {S : List Int} (hx : l[j]? = some x) : wgsI k (l.drop j) S = if weighB k x = false then 1 else if x.id ∈ S then 6 else wgsI k (l.drop (j + 1)) (S ++ [x.id]) := by
  obtain ⟨hl, e⟩ := List.getElem?_eq_some_iff.1 hx
  rw [List.drop_eq_getElem_cons hl, e, wgsI]
theorem run_right (l : List Rec) (bs a b : Int) : ((runI l bs a b).2 == 0) = (decide (0 ≤ place l a) && decide (place l a ≤ place l b)) := by
  unfold runI
  by_cases h : place l a < 0 ∨ place l b < 0
  · rw [if_pos h, Bool.eq_iff_iff]; simp; omega
  · rw [if_neg h]
    by_cases h2 : place l b < place l a
    · rw [if_pos h2, Bool.eq_iff_iff]; simp; omega
    · rw [if_neg h2, Bool.eq_iff_iff]; simp; omega
theorem weigh_right (k : Kl) (g : Wg) : weighB k g = (inB g.id 1 1099511627776 && spanB g.lo g.hi 16777216 && (weighedI k g).2) := by
  have e : (weighedI k g).2 = (if g.kind = 1 then decide (0 ≤ place k.ls g.frm) && decide (place k.ls g.frm ≤ place k.ls g.too)
     else if g.kind = 2 then decide (0 ≤ place k.ds g.frm) && decide (place k.ds g.frm ≤ place k.ds g.too)
     else if g.kind = 3 then inB g.frm 0 16384 && (g.too == 0) else false) := by
    unfold weighedI
    by_cases h1 : g.kind = 1
    · rw [if_pos h1, if_pos h1]; exact run_right _ _ _ _
    · rw [if_neg h1, if_neg h1]
      by_cases h2 : g.kind = 2
      · rw [if_pos h2, if_pos h2]; exact run_right _ _ _ _
      · rw [if_neg h2, if_neg h2]
        by_cases h3 : g.kind = 3
        · rw [if_pos h3]
          by_cases h4 : inB g.frm 0 16384 = true ∧ g.too = 0
          · rw [if_pos ⟨h3, h4⟩]; simp [h4.1, h4.2]
          · rw [if_neg (fun h => h4 h.2)]
            rw [Bool.eq_iff_iff]; simp; exact fun a b => h4 ⟨a, b⟩
        · rw [if_neg h3, if_neg (fun h => h3 h.1)]
  rw [e]
  unfold weighB
  cases spanB g.lo g.hi 16777216 <;> cases inB g.id 1 1099511627776 <;> rfl
set_option maxHeartbeats 1000000 in
set_option maxRecDepth 100000 in
theorem checkWeighs_c (k : Kl) (v : Value) (r : Nat) (S : List Int) (w : World) (hv : Kiln w v k) (hm : IMap w r (seenL S)) (hn : k.ls.length ≤ 20) (hn1 : NoTwice k.ls) (hn2 : NoTwice k.ds) :
    Calls Tryz.prog 81 #[v, .map (some r)] w fun e w' => e = .returned (.int .i64 (wgsI k k.ws S)) ∧ w.grownBy w' (some r) := by
  obtain ⟨vl, vd, vw, rfl, hl, hd, hw⟩ := id hv
  obtain ⟨A3, cap3, rfl, _, hnw, hat3⟩ := hw.open_
  clear hl hd hw
  have H3 := Lib.hid hat3
  clear hat3
  have hrw := hm.lt
  have HK := Lib.hid (hv.later (below_alloc w (.cells #[.int .i64 k.room, .int .i64 k.per, vl, vd, .slice A3 k.ws.length cap3] 26)))
  have HM1 := Lib.hid (hm.later (below_alloc w (.cells #[.int .i64 k.room, .int .i64 k.per, vl, vd, .slice A3 k.ws.length cap3] 26)))
  have HM0 := Lib.hid hm
  clear hv hm
  go_enter Tryz.func81, Tryz.ntmps81
  go_wp2
  go_loopw [12] (fun i wr => ∃ j : Nat, j ≤ k.ws.length ∧ i = .int .i64 j ∧ Hid (IMap wr r (seenL (S ++ (k.ws.take j).map (·.id)))) ∧ Hid (wgsI k k.ws S = wgsI k (k.ws.drop j) (S ++ (k.ws.take j).map (·.id))) ∧
      (w.alloc (.cells #[.int .i64 k.room, .int .i64 k.per, vl, vd, .slice A3 k.ws.length cap3] 26)).grownBy wr (some r)) (fun i _ => k.ws.length - (intOf i).toNat)
  case atStart => exact ⟨0, Nat.zero_le _, rfl, by show IMap _ _ _; simpa using HM1.out, by show wgsI k k.ws S = _; simp, World.grownBy.refl _ _⟩
  case round =>
    obtain ⟨j, hj, rfl, HM, HR, hg⟩ := hrel
    obtain ⟨hc, hf⟩ := grown_cell hg
    have hgs := hg.size
    simp only [World.size_alloc] at hgs
    have hz : w.heap.size < wr.heap.size := by omega
    have hne : w.heap.size ≠ r := by omega
    have hG0 := grown_trans' (below_grownBy (below_alloc w (.cells #[.int .i64 k.room, .int .i64 k.per, vl, vd, .slice A3 k.ws.length cap3] 26)) (some r)) hg
    by_cases hlt : j < k.ws.length
    · obtain ⟨b, off, x, rfl, hb, hx0, c0, c1, c2, c3, c4, c5⟩ := H3.out j hlt
      have hbne : b ≠ r := map_ne_cells HM0.out c0
      have hbz : b < w.heap.size + 1 := by omega
      have hst := wgs_step (k := k) (S := S ++ (k.ws.take j).map (·.id)) hx0
      have hx := Lib.hid hx0
      clear hx0
      have HK2 := Lib.hid ((HK.out.mapped HM1.out hg).later (below_alloc wr (.cells #[.int .i64 x.id, .int .i64 x.kind, .int .i64 x.frm, .int .i64 x.too, .int .i64 x.lo, .int .i64 x.hi] 112)))
      have HST := Lib.hid hst
      have HROW := Lib.hid (weigh_right k x)
      clear hst
      rcases Bool.eq_false_or_eq_true (inB x.id 1 1099511627776) with q1 | q1
      · rcases Bool.eq_false_or_eq_true (spanB x.lo x.hi 16777216) with q2 | q2
        · rcases Bool.eq_false_or_eq_true (weighedI k x).2 with q3 | q3
          · by_cases hin : x.id ∈ S ++ (k.ws.take j).map (·.id)
            · have H1 : Hid (wgsI k k.ws S = 6) := by show wgsI k k.ws S = 6; rw [HR.out, HST.out, if_neg (by rw [HROW.out]; simp [q1, q2, q3]), if_pos hin]
              have HIN := Lib.hid hin
              clear hin
              go_wp2_with fail
              refine (weighed_c k _ x _ HK2.out hn hn1 hn2).mono ?_
              rintro e w1 ⟨rfl, hb1⟩
              obtain ⟨hc1, hf1⟩ := bcell hb1
              have hs1 := hb1.size
              simp only [World.size_alloc] at hs1
              have hz1 : wr.heap.size < w1.heap.size := by omega
              have hz2 : w.heap.size < w1.heap.size := by omega
              go_wp2_with fail
              refine (isID_c _ _).mono ?_
              rintro e w2 ⟨rfl, rfl⟩
              go_wp2_with fail
              refine (isSpan_c _ _ _ _).mono ?_
              rintro e w3 ⟨rfl, hb3⟩
              obtain ⟨hc3, hf3⟩ := bcell hb3
              have hs3 := hb3.size
              simp only [World.size_alloc] at hs3
              have hz3 : wr.heap.size < w3.heap.size := by omega
              have hB3 := below_then (below_then (below_then (below_alloc _ _) hb1) (below_alloc _ _)) hb3
              have HM3 := Lib.hid (HM.out.later hB3)
              go_wp2_with (at_lookup; refine wpList_lookup_i rfl _ _ 128 false rfl Tryz.underlying128 Tryz.underlying3 (.bool false) Tryz.zeroBool rfl x.id rfl HM3.out (.bool true) (by rw [seen_lookup, if_pos HIN.out]; rfl) ?_)
              go_wp2_with fail
              go_ret
              exact ⟨ret_int H1.out.symm, grown_below hG0 (hB3)⟩
            · have HN : Hid (wgsI k k.ws S = wgsI k (k.ws.drop (j + 1)) (S ++ (k.ws.take (j + 1)).map (·.id))) := by
                show wgsI k k.ws S = _
                rw [HR.out, HST.out, if_neg (by rw [HROW.out]; simp [q1, q2, q3]), if_neg hin, take_map_snoc _ hx.out, List.append_assoc]
              have HIN := Lib.hid hin
              clear hin
              go_wp2_with fail
              refine (weighed_c k _ x _ HK2.out hn hn1 hn2).mono ?_
              rintro e w1 ⟨rfl, hb1⟩
              obtain ⟨hc1, hf1⟩ := bcell hb1
              have hs1 := hb1.size
              simp only [World.size_alloc] at hs1
              have hz1 : wr.heap.size < w1.heap.size := by omega
              have hz2 : w.heap.size < w1.heap.size := by omega
              go_wp2_with fail
              refine (isID_c _ _).mono ?_
              rintro e w2 ⟨rfl, rfl⟩
              go_wp2_with fail
              refine (isSpan_c _ _ _ _).mono ?_
              rintro e w3 ⟨rfl, hb3⟩
              obtain ⟨hc3, hf3⟩ := bcell hb3
              have hs3 := hb3.size
              simp only [World.size_alloc] at hs3
              have hz3 : wr.heap.size < w3.heap.size := by omega
              have hB3 := below_then (below_then (below_then (below_alloc _ _) hb1) (below_alloc _ _)) hb3
              have HM3 := Lib.hid (HM.out.later hB3)
              go_wp2_with (first | (at_lookup; refine wpList_lookup_i rfl _ _ 128 false rfl Tryz.underlying128 Tryz.underlying3 (.bool false) Tryz.zeroBool rfl x.id rfl HM3.out (.bool false) (by rw [seen_lookup, if_neg HIN.out]; rfl) ?_) | (at_mapUpdate; refine wpList_mapUpdate_new rfl _ _ _ 128 rfl Tryz.underlying128 Tryz.underlying3 rfl x.id rfl (.bool true) rfl HM3.out (by rw [seen_lookup, if_neg HIN.out]) ?_))
              intro w4 hm4 hg4
              have hgn := grown_trans' (grown_below hg hB3) hg4
              clear hg4
              go_wp2_with fail
              go_roundw
              case rel => exact ⟨j + 1, by omega, by go_num, by
                show IMap w4 r (seenL _)
                have e : seenL (S ++ (k.ws.take (j + 1)).map (·.id)) = seenL (S ++ List.take j (List.map (fun x => x.id) k.ws)) ++ [(x.id, .bool true)] := by
                  rw [take_map_snoc _ hx.out, ← List.append_assoc, seenL, List.map_append, List.map_take]; rfl
                rw [e]; exact hm4, HN, hgn⟩
              case measure => simp [intOf]; omega
          · have H1 : Hid (wgsI k k.ws S = 1) := by show wgsI k k.ws S = 1; rw [HR.out, HST.out, if_pos (by rw [HROW.out]; simp [q3])]
            go_wp2_with fail
            refine (weighed_c k _ x _ HK2.out hn hn1 hn2).mono ?_
            rintro e w1 ⟨rfl, hb1⟩
            obtain ⟨hc1, hf1⟩ := bcell hb1
            have hs1 := hb1.size
            simp only [World.size_alloc] at hs1
            have hz1 : wr.heap.size < w1.heap.size := by omega
            have hz2 : w.heap.size < w1.heap.size := by omega
            go_wp2_with fail
            refine (isID_c _ _).mono ?_
            rintro e w2 ⟨rfl, rfl⟩
            go_wp2_with fail
            refine (isSpan_c _ _ _ _).mono ?_
            rintro e w3 ⟨rfl, hb3⟩
            obtain ⟨hc3, hf3⟩ := bcell hb3
            have hs3 := hb3.size
            simp only [World.size_alloc] at hs3
            have hz3 : wr.heap.size < w3.heap.size := by omega
            have hB3 := below_then (below_then (below_then (below_alloc _ _) hb1) (below_alloc _ _)) hb3
            have HM3 := Lib.hid (HM.out.later hB3)
            go_wp2_with fail
            go_ret
            exact ⟨ret_int H1.out.symm, grown_below hG0 (hB3)⟩
        · have H1 : Hid (wgsI k k.ws S = 1) := by show wgsI k k.ws S = 1; rw [HR.out, HST.out, if_pos (by rw [HROW.out]; simp [q2])]
          go_wp2_with fail
          refine (weighed_c k _ x _ HK2.out hn hn1 hn2).mono ?_
          rintro e w1 ⟨rfl, hb1⟩
          obtain ⟨hc1, hf1⟩ := bcell hb1
          have hs1 := hb1.size
          simp only [World.size_alloc] at hs1
          have hz1 : wr.heap.size < w1.heap.size := by omega
          have hz2 : w.heap.size < w1.heap.size := by omega
          go_wp2_with fail
          refine (isID_c _ _).mono ?_
          rintro e w2 ⟨rfl, rfl⟩
          go_wp2_with fail
          refine (isSpan_c _ _ _ _).mono ?_
          rintro e w3 ⟨rfl, hb3⟩
          obtain ⟨hc3, hf3⟩ := bcell hb3
          have hs3 := hb3.size
          simp only [World.size_alloc] at hs3
          have hz3 : wr.heap.size < w3.heap.size := by omega
          have hB3 := below_then (below_then (below_then (below_alloc _ _) hb1) (below_alloc _ _)) hb3
          have HM3 := Lib.hid (HM.out.later hB3)
          go_wp2_with fail
          go_ret
          exact ⟨ret_int H1.out.symm, grown_below hG0 (hB3)⟩
      · have H1 : Hid (wgsI k k.ws S = 1) := by show wgsI k k.ws S = 1; rw [HR.out, HST.out, if_pos (by rw [HROW.out]; simp [q1])]
        go_wp2_with fail
        refine (weighed_c k _ x _ HK2.out hn hn1 hn2).mono ?_
        rintro e w1 ⟨rfl, hb1⟩
        obtain ⟨hc1, hf1⟩ := bcell hb1
        have hs1 := hb1.size
        simp only [World.size_alloc] at hs1
        have hz1 : wr.heap.size < w1.heap.size := by omega
        have hz2 : w.heap.size < w1.heap.size := by omega
        go_wp2_with fail
        refine (isID_c _ _).mono ?_
        rintro e w2 ⟨rfl, rfl⟩
        go_wp2_with fail
        go_ret
        exact ⟨ret_int H1.out.symm, grown_below hG0 (below_then (below_then (below_alloc _ _) hb1) (below_alloc _ _))⟩
    · obtain rfl : j = k.ws.length := by omega
      have H0 : Hid (wgsI k k.ws S = 0) := by show wgsI k k.ws S = 0; rw [HR.out, List.drop_length, wgsI]
      go_wp2
      go_ret
      exact ⟨ret_int H0.out.symm, hG0⟩
end Go.Proofs.YtnedcclmfokdnaaGreat
namespace Go.Proofs.YtnedcclmfokdnaaGreat
open Go.RowKit
theorem firstErr_append (k : Kl) : ∀ l r : List Nat, firstErr k (l ++ r) = if firstErr k l = 0 then firstErr k r else firstErr k l
  | [], r => by simp [firstErr]
  | i :: l, r => by
    rw [List.cons_append, firstErr, firstErr]
    by_cases h : errAt k i = 0
    · rw [if_pos h, if_pos h]; exact firstErr_append k l r
    · rw [if_neg h, if_neg h, if_neg h]
theorem firstB_mem {l : List Int} {i : Nat} {y : Int} (hy : l[i]? = some y) : aheadB l i = false ↔ y ∈ l.take i := by
  constructor
  · intro h
    unfold aheadB at h
    rw [List.all_eq_false] at h
    obtain ⟨x, hx, he⟩ := h
    simp [hy] at he
    exact he ▸ hx
  · intro h
    obtain ⟨j, hj⟩ := List.getElem?_of_mem h
    rw [List.getElem?_take] at hj
    split at hj
    · rename_i hlt; exact firstB_no hy hj hlt rfl
    · cases hj
theorem errAt_eq {k : Kl} {i : Nat} {b : Bool} {y : Int} (ho : okAt k i = b) (hy : (allIds k)[i]? = some y) : errAt k i = if b = false then 1 else if y ∈ (allIds k).take i then 6 else 0 := by
  unfold errAt
  rw [ho]
  by_cases hb : b = false
  · rw [if_pos hb, if_pos hb]
  · rw [if_neg hb, if_neg hb]
    by_cases h : aheadB (allIds k) i = false
    · rw [if_pos h, if_pos ((firstB_mem hy).1 h)]
    · rw [if_neg h, if_neg (fun e => h ((firstB_mem hy).2 e))]
theorem ids_load {k : Kl} {i : Nat} {x : Rec} (hx : k.ls[i]? = some x) : (allIds k)[i]? = some x.id := by
  have hl := (List.getElem?_eq_some_iff.1 hx).1
  unfold allIds
  rw [List.append_assoc, List.getElem?_append_left (by simpa using hl), List.getElem?_map, hx]; rfl
theorem ids_draw {k : Kl} {i : Nat} {x : Rec} (hx : k.ds[i]? = some x) : (allIds k)[k.ls.length + i]? = some x.id := by
  have hl := (List.getElem?_eq_some_iff.1 hx).1
  unfold allIds
  rw [List.append_assoc, List.getElem?_append_right (by simp), List.getElem?_append_left (by simpa using hl), List.getElem?_map]
  simp [hx]
theorem ids_weigh {k : Kl} {i : Nat} {x : Wg} (hx : k.ws[i]? = some x) : (allIds k)[k.ls.length + k.ds.length + i]? = some x.id := by
  unfold allIds
  rw [List.getElem?_append_right (by simp), List.getElem?_map]
  simp [hx]
theorem rows_of_loads (k : Kl) : ∀ (m j : Nat), j + m = k.ls.length → firstErr k (List.range' j m) = rowsI (k.ls.drop j) (behind k.ls j) ((allIds k).take j)
  | 0, j, h => by rw [show j = k.ls.length by omega, List.drop_length]; rfl
  | m + 1, j, h => by
    have hx : k.ls[j]? = some k.ls[j] := List.getElem?_eq_getElem (by omega)
    have hid := ids_load hx
    rw [List.range'_succ, firstErr, rows_step hx, errAt_eq (okAt_load (by omega) hx) hid]
    have ih := rows_of_loads k m (j + 1) (by omega)
    rw [behind_next rfl hx, take_snoc hid] at ih
    by_cases h1 : recordB k.ls[j].id k.ls[j].hour k.ls[j].lo k.ls[j].hi (behind k.ls j) = false
    · simp only [h1, if_true]; rfl
    · rw [if_neg h1, if_neg h1]
      by_cases h2 : k.ls[j].id ∈ (allIds k).take j
      · simp only [h2, if_true]; rfl
      · simp only [h2, if_false, if_true]; exact ih
theorem rows_of_draws (k : Kl) : ∀ (m j : Nat), j + m = k.ds.length → firstErr k (List.range' (k.ls.length + j) m) = rowsI (k.ds.drop j) (behind k.ds j) ((allIds k).take (k.ls.length + j))
  | 0, j, h => by rw [show j = k.ds.length by omega, List.drop_length]; rfl
  | m + 1, j, h => by
    have hx : k.ds[j]? = some k.ds[j] := List.getElem?_eq_getElem (by omega)
    have hid := ids_draw hx
    have ho := okAt_draw (k := k) (j := k.ls.length + j) (x := k.ds[j]) (by omega) (by omega) (by rw [Nat.add_sub_cancel_left]; exact hx)
    rw [Nat.add_sub_cancel_left] at ho
    rw [List.range'_succ, firstErr, rows_step hx, errAt_eq ho hid]
    have ih := rows_of_draws k m (j + 1) (by omega)
    rw [behind_next rfl hx, ← Nat.add_assoc, take_snoc hid] at ih
    by_cases h1 : recordB k.ds[j].id k.ds[j].hour k.ds[j].lo k.ds[j].hi (behind k.ds j) = false
    · simp only [h1, if_true]; rfl
    · rw [if_neg h1, if_neg h1]
      by_cases h2 : k.ds[j].id ∈ (allIds k).take (k.ls.length + j)
      · simp only [h2, if_true]; rfl
      · simp only [h2, if_false, if_true]; exact ih
theorem wgs_of (k : Kl) : ∀ (m j : Nat), j + m = k.ws.length → firstErr k (List.range' (k.ls.length + k.ds.length + j) m) = wgsI k (k.ws.drop j) ((allIds k).take (k.ls.length + k.ds.length + j))
  | 0, j, h => by rw [show j = k.ws.length by omega, List.drop_length]; rfl
  | m + 1, j, h => by
    have hx : k.ws[j]? = some k.ws[j] := List.getElem?_eq_getElem (by omega)
    have hid := ids_weigh hx
    have ho := okAt_weigh (k := k) (j := k.ls.length + k.ds.length + j) (x := k.ws[j]) (by omega) (by omega) (by rw [show k.ls.length + k.ds.length + j - k.ls.length - k.ds.length = j by omega]; exact hx)
    rw [List.range'_succ, firstErr, wgs_step hx, errAt_eq ho hid]
    have ih := wgs_of k m (j + 1) (by omega)
    rw [← Nat.add_assoc, take_snoc hid] at ih
    by_cases h1 : weighB k k.ws[j] = false
    · simp only [h1, if_true]; rfl
    · rw [if_neg h1, if_neg h1]
      by_cases h2 : k.ws[j].id ∈ (allIds k).take (k.ls.length + k.ds.length + j)
      · simp only [h2, if_true]; rfl
      · simp only [h2, if_false, if_true]; exact ih
theorem take_loads (k : Kl) : (allIds k).take k.ls.length = k.ls.map (·.id) := by
  unfold allIds
  rw [List.append_assoc, List.take_append_of_le_length (by simp), List.take_of_length_le (by simp)]
theorem take_draws (k : Kl) : (allIds k).take (k.ls.length + k.ds.length) = k.ls.map (·.id) ++ k.ds.map (·.id) := by
  unfold allIds
  rw [List.take_append_of_le_length (by simp), List.take_of_length_le (by simp)]
theorem check_split {k : Kl} (h1 : inB k.room 0 16777216 = true) (h2 : inB k.per 1 65536 = true) (h3 : k.ls.length ≤ 20) (h4 : k.ds.length ≤ 20) (h5 : k.ws.length ≤ 20) :
    checkI k = if rowsI k.ls 0 [] = 0 then (if rowsI k.ds 0 (k.ls.map (·.id)) = 0 then wgsI k k.ws (k.ls.map (·.id) ++ k.ds.map (·.id)) else rowsI k.ds 0 (k.ls.map (·.id))) else rowsI k.ls 0 [] := by
  have e1 := rows_of_loads k k.ls.length 0 (by omega)
  have e2 := rows_of_draws k k.ds.length 0 (by omega)
  have e3 := wgs_of k k.ws.length 0 (by omega)
  rw [List.drop_zero, behind_first (by omega), List.take_zero] at e1
  rw [List.drop_zero, behind_first (by omega), Nat.add_zero, take_loads] at e2
  rw [List.drop_zero, Nat.add_zero, take_draws] at e3
  unfold checkI
  rw [if_neg (by simp [h1, h2]), if_neg (by omega), allIds_len, List.range_eq_range']
  rw [show List.range' 0 (k.ls.length + k.ds.length + k.ws.length) = List.range' 0 k.ls.length ++ (List.range' k.ls.length k.ds.length ++ List.range' (k.ls.length + k.ds.length) k.ws.length) by
    rw [← List.append_assoc]
    have a := List.range'_append_1 (s := 0) (m := k.ls.length) (n := k.ds.length)
    have b := List.range'_append_1 (s := 0) (m := k.ls.length + k.ds.length) (n := k.ws.length)
    simp only [Nat.zero_add] at a b
    rw [a, b]]
  rw [firstErr_append, firstErr_append, e1, e2, e3]
theorem mem_of_rows : ∀ {l : List Rec} {h : Int} {S : List Int}, rowsI l h S = 0 → (∀ x ∈ l, x.id ∉ S) ∧ (l.map (·.id)).Nodup
  | [], _, _, _ => ⟨by simp, by simp⟩
  | x :: l, h, S, e => by
    rw [rowsI] at e
    split at e
    · omega
    · split at e
      · omega
      · rename_i hx
        obtain ⟨h1, h2⟩ := mem_of_rows e
        refine ⟨fun y hy => ?_, ?_⟩
        · rcases List.mem_cons.1 hy with rfl | hy
          · exact hx
          · exact fun hs => h1 y hy (by simp [hs])
        · rw [List.map_cons, List.nodup_cons]
          refine ⟨fun hm => ?_, h2⟩
          obtain ⟨y, hy, he⟩ := List.mem_map.1 hm
          exact h1 y hy (by simp [he])
theorem noTwice_of {l : List Rec} (h : (l.map (·.id)).Nodup) : NoTwice l := by
  intro i j x y hi hj he
  obtain ⟨hli, ei⟩ := List.getElem?_eq_some_iff.1 hi
  obtain ⟨hlj, ej⟩ := List.getElem?_eq_some_iff.1 hj
  have h1 : i < (l.map (·.id)).length := by simpa using hli
  have h2 : j < (l.map (·.id)).length := by simpa using hlj
  exact (List.getElem_inj (h₀ := h1) (h₁ := h2) h).1 (by simp [ei, ej, he])
end Go.Proofs.YtnedcclmfokdnaaGreat
namespace Go.Proofs.YtnedcclmfokdnaaGreat
open Go.RowKit
theorem grown_new {w W w' : World} {r : Nat} (h0 : Below w.heap.size w W) (hr : w.heap.size ≤ r) (hg : W.grownBy w' (some r)) : Below w.heap.size w w' :=
  h0.grown hg h0.size fun k e => by injection e with e; omega
set_option maxHeartbeats 1000000 in
set_option maxRecDepth 100000 in
theorem check_c (k : Kl) (v : Value) (w : World) (hv : Kiln w v k) :
    Calls Tryz.prog 22 #[v] w fun e w' => e = .returned (.int .i64 (checkI k)) ∧ Below w.heap.size w w' := by
  obtain ⟨vl, vd, vw, rfl, hl, hd, hw⟩ := id hv
  obtain ⟨A, cap, rfl, _, hn1, ha1⟩ := id hl
  obtain ⟨A2, cap2, rfl, _, hn2, ha2⟩ := id hd
  obtain ⟨A3, cap3, rfl, _, hn3, ha3⟩ := id hw
  clear ha1 ha2 ha3
  have HK := Lib.hid hv
  have HL := Lib.hid hl
  have HD := Lib.hid hd
  clear hv hl hd hw
  have hmm := @run_makeMap Tryz.prog
  by_cases r1 : 0 ≤ k.room ∧ k.room ≤ 16777216
  · by_cases r2 : 1 ≤ k.per ∧ k.per ≤ 65536
    · obtain ⟨r3, r4⟩ := r1
      obtain ⟨r5, r6⟩ := r2
      have b1 : inB k.room 0 16777216 = true := by simp [inB, r3, r4]
      have b2 : inB k.per 1 65536 = true := by simp [inB, r5, r6]
      by_cases l1 : 20 < k.ls.length
      · go_enter Tryz.func22, Tryz.ntmps22
        go_wp2
        go_ret
        exact ⟨ret_int (by rw [checkI, if_neg (by simp [b1, b2]), if_pos (by omega)]), below_alloc _ _⟩
      by_cases l2 : 20 < k.ds.length
      · go_enter Tryz.func22, Tryz.ntmps22
        go_wp2
        go_ret
        exact ⟨ret_int (by rw [checkI, if_neg (by simp [b1, b2]), if_pos (by omega)]), below_alloc _ _⟩
      by_cases l3 : 20 < k.ws.length
      · go_enter Tryz.func22, Tryz.ntmps22
        go_wp2
        go_ret
        exact ⟨ret_int (by rw [checkI, if_neg (by simp [b1, b2]), if_pos (by omega)]), below_alloc _ _⟩
      have HC := Lib.hid (check_split b1 b2 (by omega) (by omega) (by omega))
      have HM := Lib.hid (show IMap ((w.alloc (.cells #[.int .i64 k.room, .int .i64 k.per, .slice A k.ls.length cap, .slice A2 k.ds.length cap2, .slice A3 k.ws.length cap3] 26)).alloc (.map #[] 0)) (w.heap.size + 1) (seenL []) by simpa [seenL] using IMap.made (w.alloc (.cells #[.int .i64 k.room, .int .i64 k.per, .slice A k.ls.length cap, .slice A2 k.ds.length cap2, .slice A3 k.ws.length cap3] 26)))
      have hB0 := below_then (below_alloc w (.cells #[.int .i64 k.room, .int .i64 k.per, .slice A k.ls.length cap, .slice A2 k.ds.length cap2, .slice A3 k.ws.length cap3] 26)) (below_alloc _ (.map #[] 0))
      by_cases e1 : rowsI k.ls 0 [] = 0
      · by_cases e2 : rowsI k.ds 0 (k.ls.map (·.id)) = 0
        · go_enter Tryz.func22, Tryz.ntmps22
          go_wp2_with fail
          refine (loadsV _ _ _ _ _ _ _ _).mono ?_
          rintro e w1 ⟨rfl, hb1⟩
          obtain ⟨hc1, hf1⟩ := bcell hb1
          have hB1 := below_then hB0 hb1
          go_wp2_with fail
          refine (checkL_c k.ls _ _ _ [] _ (HL.out.later hB1) (HM.out.later hb1)).mono ?_
          rintro e w2 ⟨rfl, hg2, hm2⟩
          have HM2 := Lib.hid (hm2 e1)
          clear hm2
          have HR1 := Lib.hid e1
          rw [e1]
          obtain ⟨hc2, hf2⟩ := grown_cell hg2
          have hz1 : w.heap.size < w1.heap.size := by have := hb1.size; simp at this; omega
          have hne : w.heap.size ≠ w.heap.size + 1 := by omega
          have hg2s := hg2.size
          have HD2 := Lib.hid ((HD.out.later hB1).mapped (fun x => by simp [rC]) (HM.out.later hb1) hg2)
          have HK2 := Lib.hid ((HK.out.later hB1).mapped (HM.out.later hb1) hg2)
          have hG2 := grown_trans' (below_grownBy hb1 (some (w.heap.size + 1))) hg2
          go_wp2_with fail
          refine (drawsV _ _ _ _ _ _ _ _ _ _).mono ?_
          rintro e w3 ⟨rfl, hb3⟩
          obtain ⟨hc3, hf3⟩ := bcell hb3
          have hG3 := grown_below hG2 hb3
          go_wp2_with fail
          refine (checkD_c k.ds _ _ _ (k.ls.map (·.id)) _ (HD2.out.later hb3) (by have := HM2.out.later hb3; simpa using this)).mono ?_
          rintro e w4 ⟨rfl, hg4, hm4⟩
          have HM4 := Lib.hid (hm4 e2)
          clear hm4
          have HR2 := Lib.hid e2
          rw [e2]
          obtain ⟨hc4, hf4⟩ := grown_cell hg4
          have hG4 := grown_trans' hG3 hg4
          have hz2 : w.heap.size < w2.heap.size := by omega
          have hz3 : w.heap.size < w3.heap.size := by have := hb3.size; omega
          have HK4 := Lib.hid ((HK2.out.later hb3).mapped (by have := HM2.out.later hb3; simpa using this) hg4)
          clear e1 e2
          go_wp2_with fail
          refine (checkWeighs_c k _ _ (k.ls.map (·.id) ++ k.ds.map (·.id)) _ HK4.out HM4.out (by omega) (noTwice_of (mem_of_rows HR1.out).2) (noTwice_of (mem_of_rows HR2.out).2)).mono ?_
          rintro e w5 ⟨rfl, hg5⟩
          go_wp2_with fail
          go_ret
          exact ⟨ret_int (by rw [HC.out, if_pos HR1.out, if_pos HR2.out]), grown_new hB0 (by omega) (grown_trans' hG4 hg5)⟩
        · have hb : (rowsI k.ds 0 (k.ls.map (·.id)) != 0) = true := by simp [e2]
          go_enter Tryz.func22, Tryz.ntmps22
          go_wp2_with fail
          refine (loadsV _ _ _ _ _ _ _ _).mono ?_
          rintro e w1 ⟨rfl, hb1⟩
          obtain ⟨hc1, hf1⟩ := bcell hb1
          have hB1 := below_then hB0 hb1
          go_wp2_with fail
          refine (checkL_c k.ls _ _ _ [] _ (HL.out.later hB1) (HM.out.later hb1)).mono ?_
          rintro e w2 ⟨rfl, hg2, hm2⟩
          have HM2 := Lib.hid (hm2 e1)
          clear hm2
          have HR1 := Lib.hid e1
          rw [e1]
          obtain ⟨hc2, hf2⟩ := grown_cell hg2
          have hz1 : w.heap.size < w1.heap.size := by have := hb1.size; simp at this; omega
          have hne : w.heap.size ≠ w.heap.size + 1 := by omega
          have hg2s := hg2.size
          have HD2 := Lib.hid ((HD.out.later hB1).mapped (fun x => by simp [rC]) (HM.out.later hb1) hg2)
          have HK2 := Lib.hid ((HK.out.later hB1).mapped (HM.out.later hb1) hg2)
          have hG2 := grown_trans' (below_grownBy hb1 (some (w.heap.size + 1))) hg2
          go_wp2_with fail
          refine (drawsV _ _ _ _ _ _ _ _ _ _).mono ?_
          rintro e w3 ⟨rfl, hb3⟩
          obtain ⟨hc3, hf3⟩ := bcell hb3
          have hG3 := grown_below hG2 hb3
          go_wp2_with fail
          refine (checkD_c k.ds _ _ _ (k.ls.map (·.id)) _ (HD2.out.later hb3) (by have := HM2.out.later hb3; simpa using this)).mono ?_
          rintro e w4 ⟨rfl, hg4, hm4⟩
          clear hm4
          have HR2 := Lib.hid e2
          clear e1 e2
          go_wp2_with fail
          go_ret
          exact ⟨ret_int (by rw [HC.out, if_pos HR1.out, if_neg HR2.out]), grown_new hB0 (by omega) (grown_trans' hG3 hg4)⟩
      · have hb : (rowsI k.ls 0 [] != 0) = true := by simp [e1]
        go_enter Tryz.func22, Tryz.ntmps22
        go_wp2_with fail
        refine (loadsV _ _ _ _ _ _ _ _).mono ?_
        rintro e w1 ⟨rfl, hb1⟩
        obtain ⟨hc1, hf1⟩ := bcell hb1
        have hB1 := below_then hB0 hb1
        go_wp2_with fail
        refine (checkL_c k.ls _ _ _ [] _ (HL.out.later hB1) (HM.out.later hb1)).mono ?_
        rintro e w2 ⟨rfl, hg2, hm2⟩
        clear hm2
        have HR1 := Lib.hid e1
        clear e1
        go_wp2_with fail
        go_ret
        exact ⟨ret_int (by rw [HC.out, if_neg HR1.out]), grown_new hB0 (by omega) (grown_trans' (below_grownBy hb1 (some (w.heap.size + 1))) hg2)⟩
    · obtain ⟨r3, r4⟩ := r1
      have hc : Hid (checkI k = 1) := by show checkI k = 1; rw [checkI, if_pos (.inr (by simp [inB]; omega))]
      have hp : k.per < 1 ∨ 65536 < k.per := by omega
      clear r2
      rcases hp with hp | hp
      · go_enter Tryz.func22, Tryz.ntmps22
        go_wp2
        go_ret
        exact ⟨ret_int hc.out.symm, below_alloc _ _⟩
      · go_enter Tryz.func22, Tryz.ntmps22
        go_wp2
        go_ret
        exact ⟨ret_int hc.out.symm, below_alloc _ _⟩
  · have hc : Hid (checkI k = 1) := by show checkI k = 1; rw [checkI, if_pos (.inl (by simp [inB]; omega))]
    have hp : k.room < 0 ∨ (0 ≤ k.room ∧ 16777216 < k.room) := by omega
    clear r1
    rcases hp with hp | ⟨hp, hp2⟩
    · go_enter Tryz.func22, Tryz.ntmps22
      go_wp2
      go_ret
      exact ⟨ret_int hc.out.symm, below_alloc _ _⟩
    · go_enter Tryz.func22, Tryz.ntmps22
      go_wp2
      go_ret
      exact ⟨ret_int hc.out.symm, below_alloc _ _⟩
end Go.Proofs.YtnedcclmfokdnaaGreat
namespace Go.Proofs.YtnedcclmfokdnaaGreat
open Go.RowKit
def marksI (k : Kl) (frm too : Int) : Int := if checkI k ≠ 0 then checkI k else if (0 ≤ frm ∧ frm ≤ k.ls.length + k.ds.length) ∧ 0 ≤ too ∧ too ≤ k.ls.length + k.ds.length then 0 else 1
def hourI (k : Kl) (h : Int) : Int := if checkI k ≠ 0 then checkI k else if inB h 0 16384 = true then 0 else 1
theorem checkMarks_c (k : Kl) (v : Value) (frm too : Int) (w : World) (hv : Kiln w v k) :
    Calls Tryz.prog 95 #[v, .int .i64 frm, .int .i64 too] w fun e w' => e = .returned (.int .i64 (marksI k frm too)) ∧ Below w.heap.size w w' := by
  obtain ⟨vl, vd, vw, rfl, hl, hd, _⟩ := id hv
  obtain ⟨A, cap, rfl, _, hn1, ha1⟩ := id hl
  obtain ⟨A2, cap2, rfl, _, hn2, ha2⟩ := id hd
  clear ha1 ha2 hl hd
  by_cases h0 : checkI k = 0
  · have H0 := Lib.hid h0
    have hres : Hid (marksI k frm too = if (0 ≤ frm ∧ frm ≤ k.ls.length + k.ds.length) ∧ 0 ≤ too ∧ too ≤ k.ls.length + k.ds.length then 0 else 1) := by
      show marksI k frm too = _; rw [marksI, if_neg (by simp [H0.out])]
    clear h0
    have hc : (0 ≤ frm ∧ frm ≤ k.ls.length + k.ds.length ∧ 0 ≤ too ∧ too ≤ k.ls.length + k.ds.length) ∨ frm < 0 ∨ (0 ≤ frm ∧ (k.ls.length : Int) + k.ds.length < frm) ∨
        (0 ≤ frm ∧ frm ≤ k.ls.length + k.ds.length ∧ too < 0) ∨ (0 ≤ frm ∧ frm ≤ k.ls.length + k.ds.length ∧ 0 ≤ too ∧ (k.ls.length : Int) + k.ds.length < too) := by omega
    rcases hc with ⟨c1, c2, c3, c4⟩ | c1 | ⟨c1, c2⟩ | ⟨c1, c2, c3⟩ | ⟨c1, c2, c3, c4⟩
    all_goals
      go_enter Tryz.func95, Tryz.ntmps95
      go_wp2_with fail
      refine (check_c k _ _ (hv.later (below_alloc _ _))).mono ?_
      rintro e w1 ⟨rfl, hb1⟩
      obtain ⟨hc1, hf1⟩ := bcell hb1
      rw [H0.out]
      go_wp2_with fail
      go_ret
      exact ⟨ret_int (by rw [hres.out]; first | rw [if_pos (by omega)] | rw [if_neg (by omega)]), below_then (below_alloc _ _) hb1⟩
  · have hcl : Hid (marksI k frm too = checkI k) := by show marksI k frm too = checkI k; rw [marksI, if_pos h0]
    have hne : (checkI k != 0) = true := by simp [h0]
    clear h0
    go_enter Tryz.func95, Tryz.ntmps95
    go_wp2_with fail
    refine (check_c k _ _ (hv.later (below_alloc _ _))).mono ?_
    rintro e w1 ⟨rfl, hb1⟩
    go_wp2_with fail
    go_ret
    exact ⟨ret_int hcl.out.symm, below_then (below_alloc _ _) hb1⟩
theorem checkHour_c (k : Kl) (v : Value) (h : Int) (w : World) (hv : Kiln w v k) :
    Calls Tryz.prog 105 #[v, .int .i64 h] w fun e w' => e = .returned (.int .i64 (hourI k h)) ∧ Below w.heap.size w w' := by
  obtain ⟨vl, vd, vw, rfl, hl, hd, _⟩ := id hv
  by_cases h0 : checkI k = 0
  · have H0 := Lib.hid h0
    clear h0
    rcases Bool.eq_false_or_eq_true (inB h 0 16384) with c | c
    · have hres : Hid (hourI k h = 0) := by show hourI k h = 0; rw [hourI, if_neg (by simp [H0.out]), if_pos c]
      go_enter Tryz.func105, Tryz.ntmps105
      go_wp2_with fail
      refine (check_c k _ _ (hv.later (below_alloc _ _))).mono ?_
      rintro e w1 ⟨rfl, hb1⟩
      rw [H0.out]
      go_wp2_with fail
      refine (isHour_c _ _).mono ?_
      rintro e w2 ⟨rfl, rfl⟩
      go_wp2_with fail
      go_ret
      exact ⟨ret_int hres.out.symm, below_then (below_alloc _ _) hb1⟩
    · have hres : Hid (hourI k h = 1) := by show hourI k h = 1; rw [hourI, if_neg (by simp [H0.out]), if_neg (by simp [c])]
      go_enter Tryz.func105, Tryz.ntmps105
      go_wp2_with fail
      refine (check_c k _ _ (hv.later (below_alloc _ _))).mono ?_
      rintro e w1 ⟨rfl, hb1⟩
      rw [H0.out]
      go_wp2_with fail
      refine (isHour_c _ _).mono ?_
      rintro e w2 ⟨rfl, rfl⟩
      go_wp2_with fail
      go_ret
      exact ⟨ret_int hres.out.symm, below_then (below_alloc _ _) hb1⟩
  · have hcl : Hid (hourI k h = checkI k) := by show hourI k h = checkI k; rw [hourI, if_pos h0]
    have hne : (checkI k != 0) = true := by simp [h0]
    clear h0
    go_enter Tryz.func105, Tryz.ntmps105
    go_wp2_with fail
    refine (check_c k _ _ (hv.later (below_alloc _ _))).mono ?_
    rintro e w1 ⟨rfl, hb1⟩
    go_wp2_with fail
    go_ret
    exact ⟨ret_int hcl.out.symm, below_then (below_alloc _ _) hb1⟩
end Go.Proofs.YtnedcclmfokdnaaGreat
namespace Go.Proofs.YtnedcclmfokdnaaGreat
open Go.RowKit
theorem Right.ids {k : Kl} (h : Right k) : (allIds k).Nodup := by
  rw [List.nodup_iff_pairwise_ne, List.pairwise_iff_getElem]
  intro i j hi hj hij e
  have hl := allIds_len k
  have h1 := h.first (i := j) (by omega)
  have := firstB_no (l := allIds k) (a := j) (j := i) (List.getElem?_eq_getElem hj) (List.getElem?_eq_getElem hi) hij e
  rw [h1] at this
  cases this
theorem Right.parts {k : Kl} (h : Right k) : (k.ls.map (·.id)).Nodup ∧ (k.ds.map (·.id)).Nodup ∧ (k.ws.map (·.id)).Nodup ∧ (∀ x ∈ k.ls, ∀ y ∈ k.ds, x.id ≠ y.id) := by
  have hi := h.ids
  unfold allIds at hi
  rw [List.nodup_append, List.nodup_append] at hi
  obtain ⟨⟨a, b, c⟩, d, e⟩ := hi
  exact ⟨a, b, d, fun x hx y hy => c _ (List.mem_map_of_mem hx) _ (List.mem_map_of_mem hy)⟩
theorem Right.noL {k : Kl} (h : Right k) : NoTwice k.ls := noTwice_of h.parts.1
theorem Right.noD {k : Kl} (h : Right k) : NoTwice k.ds := noTwice_of h.parts.2.1
def UpH (l : List Rec) : Prop := ∀ (i j : Nat) (x y : Rec), i ≤ j → l[i]? = some x → l[j]? = some y → x.hour ≤ y.hour
theorem upH_of {l : List Rec} (h : ∀ (i : Nat) (x y : Rec), l[i]? = some x → l[i + 1]? = some y → x.hour ≤ y.hour) : UpH l := by
  intro i j x y hij
  induction j generalizing y with
  | zero => intro hx hy; obtain rfl : i = 0 := by omega
            rw [hx] at hy; cases hy; exact Int.le_refl _
  | succ j ih =>
    intro hx hy
    by_cases e : i = j + 1
    · subst e; rw [hx] at hy; cases hy; exact Int.le_refl _
    · have hl := (List.getElem?_eq_some_iff.1 hy).1
      have hz := List.getElem?_eq_getElem (l := l) (i := j) (by omega)
      exact Int.le_trans (ih _ (by omega) hx hz) (h j _ _ hz hy)
theorem Right.upL {k : Kl} (h : Right k) : UpH k.ls := upH_of fun i x y hx hy => by
  have h1 := recordB_iff.1 (h.load hy)
  rw [behind_next rfl hx] at h1
  omega
theorem Right.upD {k : Kl} (h : Right k) : UpH k.ds := upH_of fun i x y hx hy => by
  have h1 := recordB_iff.1 (h.draw hy)
  rw [behind_next rfl hx] at h1
  omega
theorem lastLe_all {l : List Rec} {h : Int} : ∀ {j : Nat}, (∀ (m : Nat) (x : Rec), m < j → l[m]? = some x → x.hour ≤ h) → j ≤ l.length → lastLe l h j = j
  | 0, _, _ => rfl
  | j + 1, hm, hj => lastLe_yes (List.getElem?_eq_getElem (by omega : j < l.length)) (hm j _ (by omega) (List.getElem?_eq_getElem (by omega)))
theorem lastLe_stop {l : List Rec} {h : Int} {c : Nat} : ∀ {j : Nat}, c ≤ j → (∀ (m : Nat) (x : Rec), c ≤ m → l[m]? = some x → ¬ x.hour ≤ h) → lastLe l h j = lastLe l h c
  | 0, hc, _ => by obtain rfl : c = 0 := by omega
                   rfl
  | j + 1, hc, hn => by
    by_cases e : c = j + 1
    · subst e; rfl
    · cases hx : l[j]? with
      | some x => rw [lastLe_no hx (hn j x (by omega) hx)]; exact lastLe_stop (by omega) hn
      | none =>
        have : lastLe l h (j + 1) = lastLe l h j := by simp only [lastLe, hx]
        rw [this]; exact lastLe_stop (by omega) hn
theorem cntLe_spec : ∀ (l : List Rec) (h : Int), (∀ (m : Nat) (x : Rec), m < cntLe l h → l[m]? = some x → x.hour ≤ h) ∧ ∀ x, l[cntLe l h]? = some x → ¬ x.hour ≤ h
  | [], h => by simp [cntLe]
  | y :: l, h => by
    obtain ⟨a, b⟩ := cntLe_spec l h
    unfold cntLe
    by_cases e : y.hour ≤ h
    · rw [if_pos e]
      refine ⟨fun m x hm hx => ?_, fun x hx => b x (by simpa using hx)⟩
      cases m with
      | zero => simp at hx; subst hx; exact e
      | succ m => exact a m x (by omega) (by simpa using hx)
    · rw [if_neg e]
      exact ⟨fun m x hm => by omega, fun x hx => by simp at hx; subst hx; exact e⟩
theorem cnt_last {l : List Rec} (hu : UpH l) (h : Int) : lastLe l h l.length = cntLe l h := by
  obtain ⟨a, b⟩ := cntLe_spec l h
  have hc := cntLe_le l h
  rw [lastLe_stop hc (fun m x hm hx hh => ?_)]
  · exact lastLe_all a hc
  · have hl := (List.getElem?_eq_some_iff.1 hx).1
    have hz := List.getElem?_eq_getElem (l := l) (i := cntLe l h) (by omega)
    exact b _ hz (Int.le_trans (hu _ _ _ _ hm hz hx) hh)
theorem markB_mark (k : Kl) (c : Int) : markB k.ls.length c = markI k c := rfl
theorem markB_zero (c : Int) : markB 0 c = c := by unfold markB; split <;> omega
theorem Right.byL {k : Kl} (h : Right k) (x : Int) : markB 0 (cntLe k.ls x) = chargedI k x := by rw [markB_zero, chargedI, cnt_last h.upL]
theorem Right.byD {k : Kl} (h : Right k) (x : Int) : markB k.ls.length (cntLe k.ds x) = drawnI k x := by rw [markB_mark, drawnI, cnt_last h.upD]
theorem Right.held {k : Kl} (h : Right k) (x : Int) : heldI k x = (drawnI k x, chargedI k x) := by unfold heldI; rw [h.byL, h.byD]
theorem Right.weighed {k : Kl} (h : Right k) {g : Wg} (hg : weighB k g = true) : (weighedI k g).1 = endsI k g := by
  unfold weighB at hg
  rw [Bool.and_eq_true] at hg
  obtain ⟨_, hg⟩ := hg
  unfold weighedI endsI
  by_cases h1 : g.kind = 1
  · rw [if_pos h1] at hg ⊢
    rw [if_pos h1]
    simp only [Bool.and_eq_true, decide_eq_true_eq] at hg
    unfold runI
    rw [if_neg (by omega), if_neg (by omega)]
    simp only [markB_zero]
  · rw [if_neg h1] at hg ⊢
    rw [if_neg h1]
    by_cases h2 : g.kind = 2
    · rw [if_pos h2] at hg ⊢
      rw [if_pos h2]
      simp only [Bool.and_eq_true, decide_eq_true_eq] at hg
      unfold runI
      rw [if_neg (by omega), if_neg (by omega)]
      rfl
    · rw [if_neg h2] at hg ⊢
      rw [if_neg h2]
      by_cases h3 : g.kind = 3
      · rw [if_pos h3] at hg
        simp only [Bool.and_eq_true, beq_iff_eq] at hg
        rw [if_pos ⟨h3, hg⟩, h.held]
      · rw [if_neg h3] at hg; cases hg
noncomputable def betw (k : Kl) (a b : Int) : (Int × Int) × Int := if canB (tiesL k) = true then ((-(dst (tiesL k) b a), dst (tiesL k) a b), 0) else ((0, 0), 9)
def runM (k : Kl) (f t : Int) : (Int × Int) × Int := if (runI k.ls 0 f t).2 = 5 then runI k.ds k.ls.length f t else runI k.ls 0 f t
noncomputable def runE (k : Kl) (f t : Int) : (Int × Int) × Int :=
  if checkI k ≠ 0 then ((0, 0), checkI k) else if (runM k f t).2 ≠ 0 then ((0, 0), (runM k f t).2) else betw k (runM k f t).1.1 (runM k f t).1.2
noncomputable def weightE (k : Kl) (id : Int) : (Int × Int) × Int := runE k id id
noncomputable def heldE (k : Kl) (h : Int) : (Int × Int) × Int := if hourI k h ≠ 0 then ((0, 0), hourI k h) else betw k (drawnI k h) (chargedI k h)
noncomputable def belowE (k : Kl) (id h : Int) : (Int × Int) × Int :=
  if hourI k h ≠ 0 then ((0, 0), hourI k h) else if place k.ls id < 0 then ((0, 0), 5) else if chargedI k h < place k.ls id + 1 then ((0, 0), 1) else betw k (drawnI k h) (place k.ls id)
def floorI (a b : Int) : Int := a / b
noncomputable def feetE (k : Kl) (id h : Int) : (Int × Int) × Int := if (belowE k id h).2 ≠ 0 then ((0, 0), (belowE k id h).2) else ((floorI (belowE k id h).1.1 k.per, floorI (belowE k id h).1.2 k.per), 0)
noncomputable def mostE (k : Kl) (a b : Int) : Int × Int := if marksI k a b ≠ 0 then (0, marksI k a b) else if canB (tiesL k) = true then (dst (tiesL k) a b, 0) else (0, 9)
def loadP (i : Int) : Pt := ⟨i, i + 1⟩
def drawP (k : Kl) (j : Int) : Pt := ⟨markI k j, markI k (j + 1)⟩
noncomputable def tookE (k : Kl) (d l : Int) : (Int × Int) × Int :=
  if checkI k ≠ 0 then ((0, 0), checkI k) else if place k.ls l < 0 ∨ place k.ds d < 0 then ((0, 0), 5) else if canB (tiesL k) = true then
    ((leastZ (tiesL k) (loadP (place k.ls l)) (drawP k (place k.ds d)), mostZ (tiesL k) (loadP (place k.ls l)) (drawP k (place k.ds d))), 0) else ((0, 0), 9)
noncomputable def sureL (l : List Tie) (rs : List Rec) (bs : Int) (p : Pt) (j : Nat) : List Int := (List.range j).flatMap fun i => match rs[i]? with | some x => if 0 < leastZ l ⟨markB bs i, markB bs (i + 1)⟩ p then [x.id] else [] | none => []
noncomputable def someL (l : List Tie) (rs : List Rec) (bs : Int) (p : Pt) (j : Nat) : List Int := (List.range j).flatMap fun i => match rs[i]? with | some x => if 0 < mostZ l ⟨markB bs i, markB bs (i + 1)⟩ p then [x.id] else [] | none => []
def pairE (k : Kl) (l : List Rec) (id : Int) : Int := if checkI k ≠ 0 then checkI k else if place l id < 0 then 5 else 0
noncomputable def sourceE (k : Kl) (d : Int) : Int := if pairE k k.ds d ≠ 0 then pairE k k.ds d else if canB (tiesL k) = true then 0 else 9
noncomputable def sourceS (k : Kl) (d : Int) : List Int := if sourceE k d = 0 then sureL (tiesL k) k.ls 0 (drawP k (place k.ds d)) k.ls.length else []
noncomputable def sourceM (k : Kl) (d : Int) : List Int := if sourceE k d = 0 then someL (tiesL k) k.ls 0 (drawP k (place k.ds d)) k.ls.length else []
def lessK (k : Kl) (ids : List Int) : Kl := { k with ws := k.ws.filter fun g => !(decide (g.id ∈ ids)) }
def putI : List Int → Int → List Int
  | [], n => [n]
  | x :: l, n => if x < n then x :: putI l n else n :: x :: l
noncomputable def needL (k : Kl) (q : Kl → Bool) (j : Nat) : List Int := (k.ws.take j).filterMap fun g => if q (lessK k [g.id]) then some g.id else none
def sortI (l : List Int) : List Int := l.foldl putI []
open Classical in
noncomputable def otherB (k : Kl) (a b : Int) (k' : Kl) : Bool := decide (dst (tiesL k') a b ≠ dst (tiesL k) a b)
noncomputable def restsL (k : Kl) (a b : Int) : List Int := if (mostE k a b).2 = 0 then sortI (needL k (otherB k a b) k.ws.length) else []
def aboveC (k : Kl) (a b most : Int) (p tl td : List Int) : Int :=
  if marksI k a b ≠ 0 then marksI k a b else if 200 < p.length then 2
  else if walkI (tiesL k) p a 0 = some (b, most) ∧ fitsB k tl td = true ∧ hgt k.ls.length tl td b - hgt k.ls.length tl td a = most then 0 else 8
end Go.Proofs.YtnedcclmfokdnaaGreat
