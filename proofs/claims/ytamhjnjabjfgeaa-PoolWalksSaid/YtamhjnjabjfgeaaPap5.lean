/- Package pool's Lease: what it answers. Condition: the row's size. -/
import Derived.Test.YtamhjnjabjfgeaaPal
import Derived.Test.YtamhjnjabjfgeaaPap1
import Derived.Test.YtamhjnjabjfgeaaPap4
import Derived.Deep.RegionWith
namespace Go.Proofs.Ytamhjnjabjfgeaa
open Go Go.RowKit

/-- A function laid in a block of its own. -/
theorem pl_store (W : World) (g : Nat) (lb : Array Value) (T : TypeId) : (store ⟨W.heap.size, 0, none⟩ (.func (.func g) #[] lb)).run Try.prog (W.alloc (.cells #[.nilFunc] T)) = .ok () (W.alloc (.cells #[.func (.func g) #[] lb] T)) := by
  rw [run_store Try.prog _ _ _ _ (by rfl), cell_of_row _ W.heap.size 0 _ T _ (heap_alloc_new W _)]
  simp [frozen_of_row _ W.heap.size 0 _ T (heap_alloc_new W _), World.setCell_alloc_new]
/-- What Lease has caught, at d and behind it, and its row of three. -/
structure PlAt (w : World) (d : Nat) (t x : Int) (W : World) : Prop where
  below : Below w.heap.size w W
  c0 : W.cell? ⟨w.heap.size, 0, none⟩ = some (.int .i64 t)
  cd : W.cell? ⟨d, 0, none⟩ = some (.func (.func 25) #[] #[.pointer (some ⟨w.heap.size, 0, none⟩)])
  c2 : W.cell? ⟨d + 1, 0, none⟩ = some (.int .i64 x)
  c3 : W.cell? ⟨d + 1 + 1, 0, none⟩ = some (.int .i64 (-1))
  r0 : W.cell? ⟨d + 1 + 1 + 1, 0, none⟩ = some (.func (.func 27) #[] #[.pointer (some ⟨d, 0, none⟩), .pointer (some ⟨d + 1, 0, none⟩)])
  r1 : W.cell? ⟨d + 1 + 1 + 1, 1, none⟩ = some (.func (.func 27) #[] #[.pointer (some ⟨d, 0, none⟩), .pointer (some ⟨d + 1 + 1, 0, none⟩)])
  r2 : W.cell? ⟨d + 1 + 1 + 1, 2, none⟩ = some (.func (.func 25) #[] #[.pointer (some ⟨w.heap.size, 0, none⟩)])
theorem cell_on {W W' : World} {p : Addr} {v : Value} (h : W.cell? p = some v) (hb : Below W.heap.size W W') : W'.cell? p = some v := by
  have hlt : p.block < W.heap.size := by
    unfold World.cell? at h
    cases hx : W.heap[p.block]? with
    | none => simp [hx] at h
    | some o => exact (Array.getElem?_eq_some_iff.1 hx).1
  rw [hb.cell hlt]
  exact h
theorem PlAt.on {w : World} {d : Nat} {t x : Int} {W W' : World} (h : PlAt w d t x W) (hb : Below W.heap.size W W') : PlAt w d t x W' :=
  ⟨h.below.trans (hb.mono h.below.size), cell_on h.c0 hb, cell_on h.cd hb, cell_on h.c2 hb, cell_on h.c3 hb, cell_on h.r0 hb, cell_on h.r1 hb, cell_on h.r2 hb⟩
theorem PlAt.start {w w1 : World} {t x : Int} (hb : Below w.heap.size w w1) (hq : w1.cell? ⟨w.heap.size, 0, none⟩ = some (.int .i64 t)) {d : Nat} (hd : w1.heap.size = d) :
    PlAt w d t x ((((w1.alloc (.cells #[(.func (.func 25) #[] #[.pointer (some ⟨w.heap.size, 0, none⟩)])] 51)).alloc (.cells #[.int .i64 x] 3)).alloc (.cells #[.int .i64 (-1)] 3)).alloc (.cells #[(.func (.func 27) #[] #[.pointer (some ⟨d, 0, none⟩), .pointer (some ⟨d + 1, 0, none⟩)]), (.func (.func 27) #[] #[.pointer (some ⟨d, 0, none⟩), .pointer (some ⟨d + 1 + 1, 0, none⟩)]), (.func (.func 25) #[] #[.pointer (some ⟨w.heap.size, 0, none⟩)])] 51)).drew := by
  have e1 : ∀ W : World, ∀ o : Obj, (W.alloc o).heap.size = W.heap.size + 1 := fun W o => by simp
  have hn : ∀ (W : World) (c : Array Value) (T : TypeId) (i : Nat) (v : Value) (k : Nat), W.heap.size = k → c[i]? = some v → (W.alloc (.cells c T)).cell? ⟨k, i, none⟩ = some v := fun W c T i v k hk hc => by
    subst hk
    rw [cell_of_row _ W.heap.size i _ T _ (heap_alloc_new W _)]
    exact hc
  have ho : ∀ (W : World) (o : Obj) (p : Addr) (v : Value), W.cell? p = some v → (W.alloc o).cell? p = some v := fun W o p v h => cell_on h ((Below.refl _ _).alloc (Nat.le_refl _) o)
  have s1 := e1 w1 (.cells #[(.func (.func 25) #[] #[.pointer (some ⟨w.heap.size, 0, none⟩)])] 51)
  rw [hd] at s1
  have s2 := e1 (w1.alloc (.cells #[(.func (.func 25) #[] #[.pointer (some ⟨w.heap.size, 0, none⟩)])] 51)) (.cells #[.int .i64 x] 3)
  rw [s1] at s2
  have s3 := e1 ((w1.alloc (.cells #[(.func (.func 25) #[] #[.pointer (some ⟨w.heap.size, 0, none⟩)])] 51)).alloc (.cells #[.int .i64 x] 3)) (.cells #[.int .i64 (-1)] 3)
  rw [s2] at s3
  have hbs := (((hb.alloc hb.size (.cells #[(.func (.func 25) #[] #[.pointer (some ⟨w.heap.size, 0, none⟩)])] 51)).alloc (by rw [s1, ← hd]; have := hb.size; omega) (.cells #[.int .i64 x] 3)).alloc (by rw [s2, ← hd]; have := hb.size; omega) (.cells #[.int .i64 (-1)] 3)).alloc (by rw [s3, ← hd]; have := hb.size; omega) (.cells #[(.func (.func 27) #[] #[.pointer (some ⟨d, 0, none⟩), .pointer (some ⟨d + 1, 0, none⟩)]), (.func (.func 27) #[] #[.pointer (some ⟨d, 0, none⟩), .pointer (some ⟨d + 1 + 1, 0, none⟩)]), (.func (.func 25) #[] #[.pointer (some ⟨w.heap.size, 0, none⟩)])] 51)
  exact ⟨⟨hbs.os, hbs.tape, hbs.output, hbs.size, hbs.block⟩, ho _ _ _ _ (ho _ _ _ _ (ho _ _ _ _ (ho _ _ _ _ hq))), ho _ _ _ _ (ho _ _ _ _ (ho _ _ _ _ (hn _ _ _ _ _ _ hd rfl))), ho _ _ _ _ (ho _ _ _ _ (hn _ _ _ _ _ _ s1 rfl)), ho _ _ _ _ (hn _ _ _ _ _ _ s2 rfl), hn _ _ _ _ _ _ s3 rfl, hn _ _ _ _ _ _ s3 rfl, hn _ _ _ _ _ _ s3 rfl⟩
theorem pl_own {es : List Pa} {x t i : Int} (ho : plOk es x t = true) (h : fstP (poOwn x t) es 0 = some i) : plX es x t = i ∧ plE es x t = 0 ∧ 0 ≤ i := by
  have hp := fstP_pos h
  unfold plX plE poBest
  rw [if_pos ho, if_pos ho, h]
  exact ⟨rfl, rfl, hp.1⟩
theorem pl_fresh {es : List Pa} {x t i : Int} (ho : plOk es x t = true) (h0 : fstP (poOwn x t) es 0 = Option.none) (h : fstP (poOwn (-1) t) es 0 = some i) : plX es x t = i ∧ plE es x t = 0 ∧ 0 ≤ i := by
  have hp := fstP_pos h
  unfold plX plE poBest
  rw [if_pos ho, if_pos ho, h0, h]
  exact ⟨rfl, rfl, hp.1⟩
theorem pl_some {es : List Pa} {x t i : Int} (ho : plOk es x t = true) (h0 : fstP (poOwn x t) es 0 = Option.none) (h1 : fstP (poOwn (-1) t) es 0 = Option.none) (h : fstP (fun a => a.free t) es 0 = some i) : plX es x t = i ∧ plE es x t = 0 ∧ 0 ≤ i := by
  have hp := fstP_pos h
  unfold plX plE poBest
  rw [if_pos ho, if_pos ho, h0, h1, h]
  exact ⟨rfl, rfl, hp.1⟩
theorem pl_full {es : List Pa} {x t : Int} (ho : plOk es x t = true) (h0 : fstP (poOwn x t) es 0 = Option.none) (h1 : fstP (poOwn (-1) t) es 0 = Option.none) (h : fstP (fun a => a.free t) es 0 = Option.none) : plX es x t = 0 ∧ plE es x t = 1601 := by
  unfold plX plE poBest
  rw [if_pos ho, if_pos ho, h0, h1, h]
  exact ⟨rfl, rfl⟩
set_option maxRecDepth 100000 in
set_option maxHeartbeats 16000000 in
theorem please_ok {w : World} {ao : Option Addr} {n cap : Nat} {es : List Pa} (hes : PaIn [] w ao n es) (x t : Int) (ho : plOk es x t = true) :
    Calls Try.prog 9 #[.slice ao n cap, .int .i64 x, .int .i64 t] w fun e w' => e = .returned (.tuple #[.int .i64 (plX es x t), .int .i64 (plE es x t)]) ∧ Below w.heap.size w w' := by
  obtain ⟨h1, h2, h3, h4⟩ : poMay es = true ∧ poUser x = true ∧ 0 ≤ t ∧ t ≤ 1048575 := by simpa [plOk, and_assoc] using ho
  have hb0 := (Below.refl w.heap.size w).alloc (Nat.le_refl _) (.cells #[.int .i64 t] 3)
  have hM := ppmay (cap := cap) (hes.on hb0)
  rw [h1] at hM
  have HM := Lib.hid hM
  have HU := Lib.hid (fun w => puser x true h2.symm w)
  have HD := Lib.hid (fun d y W => pdueofs d y W)
  have HQ := Lib.hid (fun (W : World) (hb : Below (w.alloc (.cells #[.int .i64 t] 3)).heap.size (w.alloc (.cells #[.int .i64 t] 3)) W) => And.intro (show W.cell? ⟨w.heap.size, 0, none⟩ = some (.int .i64 t) from (hb.cell (p := ⟨w.heap.size, 0, none⟩) (by simp)).trans (by rw [cell_of_row _ w.heap.size 0 _ _ _ (heap_alloc_new w _)]; rfl)) (hb0.trans (hb.mono hb0.size)))
  have hltI : ¬ 1048575 < t := by omega
  have hltJ : ¬ t < 0 := by omega
  have hst := fun (W : World) (g : Nat) (lb : Array Value) => pl_store W g lb 51
  have HO := Lib.hid ho
  have HES := Lib.hid (fun (d : Nat) (W : World) (h : PlAt w d t x W) => hes.on h.below)
  clear hM hb0 h1 h2 hes ho
  go_enter Try.func9, Try.ntmps9
  go_wp2_with (first
    | (go_at_call 23; (with_reducible refine HM.out.mono ?_); rintro r w1 ⟨rfl, hb1⟩; obtain ⟨q1, q2⟩ := HQ.out _ hb1; have HP := Lib.hid (PlAt.start (x := x) q2 q1 rfl); clear hb1 q2)
    | (go_at_call 24; (with_reducible refine (HU.out _).mono ?_); rintro r w2 ⟨rfl, rfl⟩))
  clear h3 h4 hst
  first
    | (go_region_with (first
      | (go_at_call 26; (with_reducible refine (HD.out _ _ _).mono ?_); rintro r w3 ⟨rfl, rfl⟩)))
    | fail
  all_goals
    generalize w1.heap.size = d at *
    (try simp only [List.getElem_toArray, List.getElem_cons_succ, List.getElem_cons_zero, Act.put, List.setIfInBounds_toArray, List.set_cons_zero, List.set_cons_succ])
    go_wp2
    go_loopw [7, 11, 12, 39] (fun _ _ _ i wr => ∃ j : Int, (j = 0 ∨ j = 1 ∨ j = 2 ∨ j = 3) ∧ i = .int .i64 j ∧ Aside (1 ≤ j → fstP (poOwn x t) es 0 = Option.none) ∧ Aside (2 ≤ j → fstP (poOwn (-1) t) es 0 = Option.none) ∧ Aside (3 ≤ j → fstP (fun a => a.free t) es 0 = Option.none) ∧ Aside (PlAt w d t x wr)) (fun _ _ _ i _ => 3 - (intOf i).toNat)
    case atStart => exact ⟨0, .inl rfl, rfl, (show Aside _ from fun c => absurd c (by decide)), (show Aside _ from fun c => absurd c (by decide)), (show Aside _ from fun c => absurd c (by decide)), HP.out⟩
    case round =>
      clear HP
      obtain ⟨j, hj, rfl, hA, hB, hC, hP⟩ := hrel
      have HP := Lib.hid hP.out
      clear hP
      rcases hj with rfl | rfl | rfl | rfl
      · obtain ⟨_, _, _, _, _, r0, r1, r2⟩ := HP.out
        have hI := pidx2 (cap := cap) (poOwn x t) d (d + 1) (HES.out _ _ HP.out) (fun W a hb => pdueof d w.heap.size (d + 1) t x a W (HP.out.on hb).cd (HP.out.on hb).c0 (HP.out.on hb).c2)
        clear hA hB hC
        cases hF : fstP (poOwn x t) es 0 with
        | some i =>
          rw [hF] at hI
          obtain ⟨e1, e2, hi0⟩ := pl_own HO.out hF
          have HE := Lib.hid (And.intro e1 e2)
          have HI := Lib.hid hI
          clear hI hF e1 e2
          go_wp2_with (go_at_call 28; (with_reducible refine HI.out.mono ?_); rintro e w5 ⟨rfl, hb⟩)
          go_ret2
          exact ⟨by rw [HE.out.1, HE.out.2]; rfl, (HP.out.on hb).below⟩
        | none =>
          rw [hF] at hI
          have HI := Lib.hid hI
          clear hI hF
          go_wp2_with (go_at_call 28; (with_reducible refine HI.out.mono ?_); rintro e w5 ⟨rfl, hb⟩)
          go_roundw
          case rel => exact ⟨1, .inr (.inl rfl), by go_num, (show Aside _ from fun _ => trivial), (show Aside _ from fun c => absurd c (by decide)), (show Aside _ from fun c => absurd c (by decide)), HP.out.on hb⟩
          case measure => simp [intOf]
      · obtain ⟨_, _, _, _, _, r0, r1, r2⟩ := HP.out
        have HA := Lib.hid (hA.out (by decide))
        have hI := pidx2 (cap := cap) (poOwn (-1) t) d (d + 1 + 1) (HES.out _ _ HP.out) (fun W a hb => pdueof d w.heap.size (d + 1 + 1) t (-1) a W (HP.out.on hb).cd (HP.out.on hb).c0 (HP.out.on hb).c3)
        clear hA hB hC
        cases hF : fstP (poOwn (-1) t) es 0 with
        | some i =>
          rw [hF] at hI
          obtain ⟨e1, e2, hi0⟩ := pl_fresh HO.out HA.out hF
          have HE := Lib.hid (And.intro e1 e2)
          have HI := Lib.hid hI
          clear hI hF e1 e2
          go_wp2_with (go_at_call 28; (with_reducible refine HI.out.mono ?_); rintro e w5 ⟨rfl, hb⟩)
          go_ret2
          exact ⟨by rw [HE.out.1, HE.out.2]; rfl, (HP.out.on hb).below⟩
        | none =>
          rw [hF] at hI
          have HI := Lib.hid hI
          clear hI hF
          go_wp2_with (go_at_call 28; (with_reducible refine HI.out.mono ?_); rintro e w5 ⟨rfl, hb⟩)
          go_roundw
          case rel => exact ⟨2, .inr (.inr (.inl rfl)), by go_num, (show Aside _ from fun _ => HA.out), (show Aside _ from fun _ => trivial), (show Aside _ from fun c => absurd c (by decide)), HP.out.on hb⟩
          case measure => simp [intOf]
      · obtain ⟨_, _, _, _, _, r0, r1, r2⟩ := HP.out
        have HA := Lib.hid (hA.out (by decide))
        have HB := Lib.hid (hB.out (by decide))
        have hI := pidx1 (cap := cap) (fun a => a.free t) w.heap.size (HES.out _ _ HP.out) (fun W a hb => pdue w.heap.size t a W (HP.out.on hb).c0)
        clear hA hB hC
        cases hF : fstP (fun a => a.free t) es 0 with
        | some i =>
          rw [hF] at hI
          obtain ⟨e1, e2, hi0⟩ := pl_some HO.out HA.out HB.out hF
          have HE := Lib.hid (And.intro e1 e2)
          have HI := Lib.hid hI
          clear hI hF e1 e2
          go_wp2_with (go_at_call 28; (with_reducible refine HI.out.mono ?_); rintro e w5 ⟨rfl, hb⟩)
          go_ret2
          exact ⟨by rw [HE.out.1, HE.out.2]; rfl, (HP.out.on hb).below⟩
        | none =>
          rw [hF] at hI
          have HI := Lib.hid hI
          clear hI hF
          go_wp2_with (go_at_call 28; (with_reducible refine HI.out.mono ?_); rintro e w5 ⟨rfl, hb⟩)
          go_roundw
          case rel => exact ⟨3, .inr (.inr (.inr rfl)), by go_num, (show Aside _ from fun _ => HA.out), (show Aside _ from fun _ => HB.out), (show Aside _ from fun _ => trivial), HP.out.on hb⟩
          case measure => simp [intOf]
      · obtain ⟨e1, e2⟩ := pl_full HO.out (hA.out (by decide)) (hB.out (by decide)) (hC.out (by decide))
        have HE := Lib.hid (And.intro e1 e2)
        clear hA hB hC e1 e2
        go_wp2
        go_ret2
        exact ⟨by rw [HE.out.1, HE.out.2]; rfl, HP.out.below⟩
theorem please {w : World} {ao : Option Addr} {n cap : Nat} {es : List Pa} (hes : PaIn [] w ao n es) (x t : Int) :
    Calls Try.prog 9 #[.slice ao n cap, .int .i64 x, .int .i64 t] w fun e w' => e = .returned (.tuple #[.int .i64 (plX es x t), .int .i64 (plE es x t)]) ∧ Below w.heap.size w w' := by
  cases ho : plOk es x t with
  | true => exact please_ok hes x t ho
  | false =>
    rw [show plX es x t = 0 by unfold plX; rw [ho]; rfl, show plE es x t = 1600 by unfold plE; rw [ho]; rfl]
    have hb0 := (Below.refl w.heap.size w).alloc (Nat.le_refl _) (.cells #[.int .i64 t] 3)
    have hM := ppmay (cap := cap) (hes.on hb0)
    have HQ := Lib.hid (fun (W : World) (hb : Below (w.alloc (.cells #[.int .i64 t] 3)).heap.size (w.alloc (.cells #[.int .i64 t] 3)) W) => And.intro (show W.cell? ⟨w.heap.size, 0, none⟩ = some (.int .i64 t) from (hb.cell (p := ⟨w.heap.size, 0, none⟩) (by simp)).trans (by rw [cell_of_row _ w.heap.size 0 _ _ _ (heap_alloc_new w _)]; rfl)) (hb0.trans (hb.mono hb0.size)))
    have hcase : poMay es = false ∨ (poMay es = true ∧ poUser x = false) ∨ (poMay es = true ∧ poUser x = true ∧ t < 0) ∨ (poMay es = true ∧ poUser x = true ∧ 0 ≤ t ∧ 1048575 < t) := by
      unfold plOk at ho
      cases h1 : poMay es with
      | false => exact .inl rfl
      | true =>
        cases h2 : poUser x with
        | false => exact .inr (.inl ⟨rfl, rfl⟩)
        | true =>
          by_cases h3 : t < 0
          · exact .inr (.inr (.inl ⟨rfl, rfl, h3⟩))
          · refine .inr (.inr (.inr ⟨rfl, rfl, by omega, ?_⟩))
            rw [h1, h2, decide_eq_true (show 0 ≤ t by omega)] at ho
            simp at ho
            exact ho
    clear ho hes hb0
    rcases hcase with h1 | ⟨h1, h2⟩ | ⟨h1, h2, h3⟩ | ⟨h1, h2, h3, h4⟩
    · rw [h1] at hM
      have HM := Lib.hid hM
      clear hM h1
      go_enter Try.func9, Try.ntmps9
      go_wp2_with (go_at_call 23; (with_reducible refine HM.out.mono ?_); rintro r w1 ⟨rfl, hb1⟩; obtain ⟨q1, q2⟩ := HQ.out _ hb1; clear hb1)
      go_ret2
      exact ⟨rfl, q2⟩
    all_goals
      rw [h1] at hM
      have HM := Lib.hid hM
      have HU := Lib.hid (fun w => puser x _ h2.symm w)
      clear hM h1 h2
      go_enter Try.func9, Try.ntmps9
      go_wp2_with (first
        | (go_at_call 23; (with_reducible refine HM.out.mono ?_); rintro r w1 ⟨rfl, hb1⟩; obtain ⟨q1, q2⟩ := HQ.out _ hb1; clear hb1)
        | (go_at_call 24; (with_reducible refine (HU.out _).mono ?_); rintro r w2 ⟨rfl, rfl⟩))
      go_ret2
      exact ⟨rfl, q2⟩
end Go.Proofs.Ytamhjnjabjfgeaa
