/- Put together: Kref, Kref2. Conditions: each theorem's own. -/
import Derived.Test.YtbfpfmidjdonjaaGreatDoorRowT
import Derived.Test.YtbfpfmidjdonjaaGreatDoorRegT
import Derived.BigQuiet
import Derived.Deep.QuietTactic
import Derived.IntWalk
import Derived.Laws.BitsLemmas
namespace Go.Proofs.YtbfpfmidjdonjaaGreatDoor
open Go Go.RowKit
abbrev TR : TypeId := 114
theorem krrestart (p : Nat) (d : Dk) : Does Tryz.prog (dkA TR p d) 23 #[.pointer (some ⟨p, 0, none⟩)] (.returned (.int .i64 d.rsE)) (dkA TR p d.rs) := by
  intro w F h
  have hs := dkA_same h (Below.refl _ _)
  obtain ⟨g, cap, v, hi, rfl⟩ := h
  have c2 := hi.c2
  have f2 := hi.f2
  have hn := hi.setDown false
  have HN : Hid (Becomes (p :: g :: v.ownBlock.toList) (dkA TR p { d with down := false }) w (w.setCell ⟨p, 2, none⟩ (.bool false))) :=
    ⟨_, ⟨g, cap, v, hn, rfl⟩, (Tn.refl _ _).setCell (.inl (by simp)) _, fun k hk => .inl hk⟩
  clear hi hn
  cases hd : d.down with
  | false =>
    rw [show d.rsE = 800 by unfold Dk.rsE; rw [hd]; rfl, show d.rs = d by unfold Dk.rs; rw [← hd]]
    rw [hd] at c2
    go_enter Tryz.func23, Tryz.ntmps23
    go_wp2
    go_ret
    exact ⟨rfl, hs⟩
  | true =>
    rw [show d.rsE = 0 by unfold Dk.rsE; rw [hd]; rfl]
    rw [hd] at c2
    go_enter Tryz.func23, Tryz.ntmps23
    go_wp2
    go_ret
    exact ⟨rfl, HN.out⟩
theorem has_false {d : Dk} {i : Int} (h : d.has i = false) : i < 0 ∨ (0 ≤ i ∧ (d.kept.length : Int) ≤ i) := by
  have : ¬ (0 ≤ i ∧ i < d.kept.length) := fun c => by rw [(d.has_iff i).2 c] at h; cases h
  omega
set_option maxRecDepth 100000 in
set_option maxHeartbeats 1000000 in
theorem krread (p : Nat) (d : Dk) (i : Int) : Does Tryz.prog (dkA TR p d) 64 #[.pointer (some ⟨p, 0, none⟩), .int .i64 i] (.returned (.tuple #[.string (d.rdS i), .int .i64 (d.rdE i)])) (dkA TR p d) := by
  intro w F h
  have hs := dkA_same h (Below.refl _ _)
  obtain ⟨g, cap, v, hi, rfl⟩ := h
  have c0 := hi.c0
  have c1 := hi.c1
  have c2 := hi.c2
  cases hd : d.down with
  | true =>
    rw [show d.rdE i = 801 by unfold Dk.rdE; rw [hd]; rfl, show d.rdS i = ⟨#[]⟩ by unfold Dk.rdS; rw [hd]; rfl]
    rw [hd] at c2
    clear hi
    go_enter Tryz.func64, Tryz.ntmps64
    go_wp2
    go_ret2
    exact ⟨rfl, hs⟩
  | false =>
    rw [hd] at c2
    cases hh : d.has i with
    | false =>
      rw [show d.rdE i = 800 by unfold Dk.rdE; rw [hd, hh]; rfl, show d.rdS i = ⟨#[]⟩ by unfold Dk.rdS; rw [hd, hh]; rfl]
      clear hi
      rcases has_false hh with a | ⟨a, b⟩
      · go_enter Tryz.func64, Tryz.ntmps64
        go_wp2
        go_ret2
        exact ⟨rfl, hs⟩
      · have a' : ¬ i < 0 := by omega
        go_enter Tryz.func64, Tryz.ntmps64
        go_wp2
        go_ret2
        exact ⟨rfl, hs⟩
    | true =>
      rw [show d.rdE i = 0 by unfold Dk.rdE; rw [hd, hh]; rfl, show d.rdS i = d.see.getD i.toNat ⟨#[]⟩ by unfold Dk.rdS; rw [hd, hh]; rfl]
      obtain ⟨h0, h1⟩ := (d.has_iff i).1 hh
      obtain ⟨m, rfl⟩ := Int.eq_ofNat_of_zero_le h0
      have hm : m < d.kept.length := by omega
      have ck := rowT_cell hi.rk hm
      have hw : ∀ j, j < d.waits.length → ∃ g cap, v = .slice (some ⟨g, 0, none⟩) d.waits.length cap ∧ w.cell? ⟨g, j * 2, none⟩ = some (.int .i64 ((d.waits.getD j (0, ⟨#[]⟩)).1 : Int)) ∧ w.cell? ⟨g, j * 2 + 1, none⟩ = some (.string (d.waits.getD j (0, ⟨#[]⟩)).2) := fun j hj => rowW_some hi.rw hj
      have hfew := rowW_few hi.rw
      unfold maxLen at hfew
      obtain ⟨ao, c, rfl⟩ := rowW_shape hi.rw
      rw [show ((m : Nat) : Int).toNat = m from rfl]
      have HS : Hid (∀ n, n < d.waits.length → (d.waits.getD n (0, ⟨#[]⟩)).1 = m → (∀ j, n + 1 ≤ j → j < d.waits.length → (d.waits.getD j (0, ⟨#[]⟩)).1 ≠ m) → d.see.getD m ⟨#[]⟩ = (d.waits.getD n (0, ⟨#[]⟩)).2) := fun n hn he hj => see_at hn hm he hj
      have HZ : Hid ((∀ j, 0 ≤ j → j < d.waits.length → (d.waits.getD j (0, ⟨#[]⟩)).1 ≠ m) → d.see.getD m ⟨#[]⟩ = d.kept.getD m ⟨#[]⟩) := fun hj => see_none 0 hj
      generalize d.see.getD m ⟨#[]⟩ = R at *
      generalize d.kept.getD m ⟨#[]⟩ = K at *
      generalize d.waits = ws at *
      have Hw := Lib.hid hw
      clear hi hw hh
      go_enter Tryz.func64, Tryz.ntmps64
      go_wp2
      go_loop [6] (fun x => ∃ n : Nat, n ≤ ws.length ∧ x = .int .i64 ((n : Int) - 1) ∧ ∀ j, n ≤ j → j < ws.length → (ws.getD j (0, ⟨#[]⟩)).1 ≠ m) (fun x => (intOf x + 1).toNat)
      case atStart => exact ⟨ws.length, Nat.le_refl _, by go_num, fun j hj hj2 => by omega⟩
      case round =>
        obtain ⟨n, hn, rfl, hno⟩ := hrel
        have Hno := Lib.hid hno
        clear hno
        cases n with
        | zero =>
          go_wp2
          go_ret2
          rw [HZ.out (fun j _ hj => Hno.out j (Nat.zero_le _) hj)]
          exact ⟨rfl, hs⟩
        | succ n =>
          obtain ⟨gw, cw, hv, h1, h2⟩ := Hw.out n hn
          obtain ⟨rfl, rfl⟩ : ao = some ⟨gw, 0, none⟩ ∧ c = cw := by simpa using hv
          clear hv
          obtain ⟨x, hx⟩ : ∃ x, ws.getD n (0, ⟨#[]⟩) = x := ⟨_, rfl⟩
          rw [hx] at h1 h2
          have Hx := Lib.hid hx
          clear hx
          rw [show ((n + 1 : Nat) : Int) - 1 = (n : Int) by omega]
          go_wp2
          · have he : (x.1 : Int) = (m : Int) := by simpa using (by assumption : ((x.1 : Int) == (m : Int)) = true)
            go_ret2
            rw [HS.out n hn (by rw [Hx.out]; omega) Hno.out, Hx.out]
            exact ⟨rfl, hs⟩
          · have he : (x.1 : Int) ≠ (m : Int) := by simpa using (by assumption : ((x.1 : Int) == (m : Int)) = false)
            go_round
            case rel => exact ⟨n, by omega, by go_num, fun j hj hj2 => by
              by_cases e : j = n
              · subst e; rw [Hx.out]; omega
              · exact Hno.out j (by omega) hj2⟩
            case measure => simp [intOf]
theorem infoR : (Tryz.prog.info? TR).map (fun i => (i.zero, i.size, i.bytes)) = some (some (.agg #[.int .i64 0, .string ⟨#[]⟩]), 2, 24) := by kernel_rfl
theorem info_of {P : Program} {t : TypeId} {z : Value} {s b : Nat} (h : (P.info? t).map (fun i => (i.zero, i.size, i.bytes)) = some (some z, s, b)) : ∃ i, P.info? t = some i ∧ i.zero = some z ∧ i.size = s ∧ i.bytes = b := by
  cases e : P.info? t with
  | none => rw [e] at h; cases h
  | some i => rw [e] at h; simp at h; exact ⟨i, rfl, h.1, h.2.1, h.2.2⟩
set_option maxRecDepth 100000 in
set_option maxHeartbeats 2000000 in
theorem krwrite (p : Nat) (d : Dk) (i : Int) (s : ByteArray) (hn : d.waits.length ≤ 1000000) : Does Tryz.prog (dkA TR p d) 21 #[.pointer (some ⟨p, 0, none⟩), .int .i64 i, .string s] (.returned (.int .i64 (d.wrE i s))) (dkA TR p (d.wr i s)) := by
  intro w F h
  have hs := dkA_same h (Below.refl _ _)
  obtain ⟨g, cap, v, hi, rfl⟩ := h
  have c0 := hi.c0
  have c1 := hi.c1
  have c2 := hi.c2
  have f1 := hi.f1
  cases hd : d.down with
  | true =>
    rw [show d.wrE i s = 801 by unfold Dk.wrE; rw [hd]; rfl, show d.wr i s = d by unfold Dk.wr; rw [hd]; rfl]
    rw [hd] at c2
    clear hi
    go_enter Tryz.func21, Tryz.ntmps21
    go_wp2
    go_ret
    exact ⟨rfl, hs⟩
  | false =>
    rw [hd] at c2
    cases hh : d.has i with
    | false =>
      rw [show d.wrE i s = 800 by unfold Dk.wrE; rw [hd, hh]; rfl, show d.wr i s = d by unfold Dk.wr; rw [hd, hh]; rfl]
      clear hi
      rcases has_false hh with a | ⟨a, b⟩
      · go_enter Tryz.func21, Tryz.ntmps21
        go_wp2
        go_ret
        exact ⟨rfl, hs⟩
      · have a' : ¬ i < 0 := by omega
        go_enter Tryz.func21, Tryz.ntmps21
        go_wp2
        go_ret
        exact ⟨rfl, hs⟩
    | true =>
      obtain ⟨h0, h1⟩ := (d.has_iff i).1 hh
      by_cases h6 : s.size = 64
      · rw [show d.wrE i s = 0 by unfold Dk.wrE; rw [hd, hh]; simp [h6], show d.wr i s = { d with waits := d.waits ++ [(i.toNat, s)] } by unfold Dk.wr; rw [hd, hh]; simp [h6]]
        obtain ⟨m, rfl⟩ := Int.eq_ofNat_of_zero_le h0
        have hm : m < d.kept.length := by omega
        rw [show ((m : Nat) : Int).toNat = m from rfl]
        have Hadd := Lib.hid (fun w2 v' hg hr hloc => hi.added (w2 := w2) (v' := v') (x := (m, s)) hg hr ⟨hm, h6⟩ hloc)
        obtain ⟨inf, hif, hz0, hz1, hz2⟩ := info_of infoR
        have hrow := hi.rw
        have hplt := hi.lt p (by simp)
        have hpv := hi.pv
        have h6' : (s.size : Int) = 64 := by omega
        obtain ⟨ao, c, rfl⟩ := rowW_shape hrow
        have hl := wcells_len d.waits
        have Hrow := Lib.hid hrow
        clear hi hh hs h6
        go_enter Tryz.func21, Tryz.ntmps21
        go_wp2_with (at_builtin; refine wpList_append_own_at _ rfl _ _ 110 rfl 0 TR inf (.agg #[.int .i64 0, .string ⟨#[]⟩]) 2 24 Tryz.underlying110 hif hz0 hz1 hz2 rfl (by decide) _ d.waits.length _ rfl (Hrow.out.alloc _) ⟨w.heap.size, 0, none⟩ 1 1 [.int .i64 (m : Int), .string s] rfl rfl (cell_two_new _ _ _ _) (by intro u hu; simp at hu; rcases hu with rfl | rfl <;> rfl) (by unfold maxLen; omega) (by omega) (Nat.zero_le _) ?_; intro v' w2 hrow2 hgrow2 _ hloc; have hgg := (World.grownBy_alloc w _ _).trans hgrow2; have hr2 : rowW TR w2 v' (d.waits ++ [(m, s)]) := (by unfold rowW; rw [wcells_app, List.length_append]; exact hrow2); have e1 := (World.cell?_of_block (a := ⟨p, 1, none⟩) (hgg.block p hplt (fun e => hpv e.symm))).trans c1; have g1 := (World.frozen?_of_block (a := ⟨p, 1, none⟩) (hgg.block p hplt (fun e => hpv e.symm))).trans f1; have Hfin := Lib.hid (Hadd.out w2 v' hgg hr2 (by rcases hloc with e | e; exact .inl e; exact .inr ⟨_, by simp, e⟩)); obtain ⟨ao2, cap2, hv2⟩ := rowW_shape hr2; rw [show (d.waits ++ [(m, s)]).length = d.waits.length + 1 by simp] at hv2; subst hv2; clear hloc hr2 hgg hgrow2 hrow2)
        go_ret
        exact ⟨rfl, Hfin.out⟩
      · rw [show d.wrE i s = 800 by unfold Dk.wrE; rw [hd, hh]; simp [h6], show d.wr i s = d by unfold Dk.wr; rw [hd, hh]; simp [h6]]
        have h6' : ((s.size : Int) != 64) = true := by simp; omega
        have a' : ¬ i < 0 := by omega
        clear hi hh h6
        go_enter Tryz.func21, Tryz.ntmps21
        go_wp2
        go_ret
        exact ⟨rfl, hs⟩
theorem krflush0 (p : Nat) (d : Dk) (hd : d.down = true) : Does Tryz.prog (dkA TR p d) 50 #[.pointer (some ⟨p, 0, none⟩)] (.returned (.int .i64 801)) (dkA TR p d) := by
  intro w F h
  have hs := dkA_same h (Below.refl _ _)
  obtain ⟨g, cap, v, hi, rfl⟩ := h
  have c2 := hi.c2
  rw [hd] at c2
  clear hi
  go_enter Tryz.func50, Tryz.ntmps50
  go_wp2
  go_ret
  exact ⟨rfl, hs⟩
def DkAt (T : TypeId) (w : World) (p g cap : Nat) (v : Value) (d : Dk) (n : Nat) (w' : World) : Prop := DkIn T w' p ⟨keepAll d.kept (d.waits.take n), d.waits, d.down⟩ g cap v ∧ Tn (p :: g :: v.ownBlock.toList) w w'
theorem DkAt.step {T : TypeId} {w : World} {p g cap : Nat} {v : Value} {d : Dk} {n : Nat} {w' : World} (h : DkAt T w p g cap v d n w') (hn : n < d.waits.length) {x : Wt} (hx : d.waits.getD n (0, ⟨#[]⟩) = x) : DkAt T w p g cap v d (n + 1) (w'.setCell ⟨g, x.1, none⟩ (.string x.2)) := by
  obtain ⟨h1, h2⟩ := h
  have hm : x ∈ d.waits := by rw [← hx, List.getD, List.getElem?_eq_getElem hn]; exact List.getElem_mem hn
  refine ⟨?_, h2.setCell (.inl (by simp)) _⟩
  rw [keepAll_take hn, hx]
  exact h1.setKept x.1 (h1.ok.ws x hm).2
theorem DkAt.drew {T : TypeId} {w : World} {p g cap : Nat} {v : Value} {d : Dk} {n : Nat} {w' : World} (h : DkAt T w p g cap v d n w') : DkAt T w p g cap v d n w'.drew := ⟨h.1.on fun _ _ => rfl, h.2.drew⟩
theorem DkAt.facts {T : TypeId} {w : World} {p g cap : Nat} {v : Value} {d : Dk} {n : Nat} {w' : World} (h : DkAt T w p g cap v d n w') :
    w'.cell? ⟨p, 0, none⟩ = some (.slice (some ⟨g, 0, none⟩) d.kept.length cap) ∧ w'.cell? ⟨p, 1, none⟩ = some v ∧ w'.frozen? ⟨p, 1, none⟩ = false ∧ w'.frozen? ⟨p, 2, none⟩ = false := by
  obtain ⟨h1, _⟩ := h
  have c0 := h1.c0
  simp only [keepAll_len] at c0
  exact ⟨c0, h1.c1, h1.f1, h1.f2⟩
theorem DkAt.wait {T : TypeId} {w : World} {p g cap : Nat} {v : Value} {d : Dk} {n : Nat} {w' : World} (h : DkAt T w p g cap v d n w') {j : Nat} (hj : j < d.waits.length) {x : Wt} (hx : d.waits.getD j (0, ⟨#[]⟩) = x) : x.1 < d.kept.length ∧ x.2.size = 64 ∧ (∃ gw cw, v = .slice (some ⟨gw, 0, none⟩) d.waits.length cw ∧
    w'.cell? ⟨gw, j * 2, none⟩ = some (.int .i64 (x.1 : Int)) ∧ w'.cell? ⟨gw, j * 2 + 1, none⟩ = some (.string x.2)) ∧ w'.cell? ⟨g, x.1, none⟩ = some (.string ((keepAll d.kept (d.waits.take n)).getD x.1 ⟨#[]⟩)) ∧ w'.frozen? ⟨g, x.1, none⟩ = false := by
  obtain ⟨h1, _⟩ := h
  have hm : x ∈ d.waits := by rw [← hx, List.getD, List.getElem?_eq_getElem hj]; exact List.getElem_mem hj
  have ho := h1.ok.ws x hm
  have hl : x.1 < (keepAll d.kept (d.waits.take n)).length := ho.1
  rw [← hx]
  rw [← hx] at hl ho
  exact ⟨by simpa [keepAll_len] using ho.1, ho.2, rowW_some h1.rw hj, rowT_cell h1.rk hl, rowT_froz h1.rk _⟩
theorem DkAt.done {T : TypeId} {w : World} {p g cap : Nat} {v : Value} {d : Dk} {w' : World} (h : DkAt T w p g cap v d d.waits.length w') (hd : d.down = false) : Becomes (p :: g :: v.ownBlock.toList) (dkA T p ⟨d.see, [], false⟩) w (w'.setCell ⟨p, 1, none⟩ (.slice none 0 0)) := by
  obtain ⟨h1, h2⟩ := h
  rw [List.take_length, hd] at h1
  exact ⟨_, ⟨g, cap, _, h1.setNil, rfl⟩, h2.setCell (.inl (by simp)) _, fun k hk => .inl (by simp [Value.ownBlock] at hk ⊢; rcases hk with e | e <;> simp [e])⟩
set_option maxRecDepth 100000 in
set_option maxHeartbeats 2000000 in
theorem krflush1 (p : Nat) (d : Dk) (hd : d.down = false) : Does Tryz.prog (dkA TR p d) 50 #[.pointer (some ⟨p, 0, none⟩)] (.returned (.int .i64 0)) (dkA TR p ⟨d.see, [], false⟩) := by
  intro w F h
  obtain ⟨g, cap, v, hi, rfl⟩ := h
  have c2 := hi.c2
  rw [hd] at c2
  have hfew := rowW_few hi.rw
  unfold maxLen at hfew
  have h0 : DkAt TR w p g cap v d 0 w := ⟨hi, Tn.refl _ _⟩
  obtain ⟨ao, c, rfl⟩ := rowW_shape hi.rw
  clear hi
  go_enter Tryz.func50, Tryz.ntmps50
  go_wp2
  go_loopw [3] (fun x wr => ∃ n : Nat, n ≤ d.waits.length ∧ x = .int .i64 (n : Int) ∧ DkAt TR w p g cap (.slice ao d.waits.length c) d n wr) (fun x _ => d.waits.length - (intOf x).toNat)
  case atStart => exact ⟨0, Nat.zero_le _, rfl, h0⟩
  case round =>
    obtain ⟨n, hn, rfl, hk⟩ := hrel
    obtain ⟨e0, e1, g1, g2⟩ := hk.facts
    by_cases hlt : n < d.waits.length
    · obtain ⟨x, hx⟩ : ∃ x, d.waits.getD n (0, ⟨#[]⟩) = x := ⟨_, rfl⟩
      obtain ⟨b1, b2, ⟨gw, cw, hv, e2, e3⟩, e4, g4⟩ := hk.wait hlt hx
      obtain ⟨rfl, rfl⟩ : ao = some ⟨gw, 0, none⟩ ∧ c = cw := by simpa using hv
      clear hv
      have hd := hk.drew
      obtain ⟨d0, d1, _, _⟩ := hd.facts
      obtain ⟨_, _, ⟨gw', cw', hv, d2, d3⟩, d4, k4⟩ := hd.wait hlt hx
      obtain ⟨rfl, rfl⟩ : gw = gw' ∧ c = cw' := by simpa using hv
      clear hv
      have HK := Lib.hid (hd.step hlt hx)
      clear hx hk hd e2 e3 e4 g4
      go_wp2
      refine region_tail 21 (by kernel_rfl) (by kernel_rfl) fun W hW => ?_
      rw [← hW] at d0 d1 d2 d3 d4 k4
      have HW := Lib.hid hW
      clear hW
      simp only [List.take_succ_cons, List.take_zero, List.drop_succ_cons, List.drop_zero]
      repeat still_step
      refine wpStill_nil ?_
      have hW := HW.out
      subst hW
      go_wp2
      go_round
      case rel => exact ⟨n + 1, by omega, by go_num, HK.out⟩
      case measure => simp [intOf]; omega
    · obtain rfl : n = d.waits.length := by omega
      have HK := Lib.hid (hk.done hd)
      clear hk
      go_wp2
      go_ret
      exact ⟨rfl, HK.out⟩
theorem krflush (p : Nat) (d : Dk) : Does Tryz.prog (dkA TR p d) 50 #[.pointer (some ⟨p, 0, none⟩)] (.returned (.int .i64 d.flE)) (dkA TR p d.fl) := by
  cases hd : d.down with
  | true =>
    rw [show d.flE = 801 by unfold Dk.flE; rw [hd]; rfl, show d.fl = d by unfold Dk.fl; rw [hd]; rfl]
    exact krflush0 p d hd
  | false =>
    rw [show d.flE = 0 by unfold Dk.flE; rw [hd]; rfl, show d.fl = ⟨d.see, [], false⟩ by unfold Dk.fl; rw [hd]; rfl]
    exact krflush1 p d hd
open Go Go.RowKit
def DkK (T : TypeId) (w : World) (p g cap : Nat) (v : Value) (d : Dk) (K : List ByteArray) (w' : World) : Prop := DkIn T w' p ⟨K, d.waits, d.down⟩ g cap v ∧ Tn (p :: g :: v.ownBlock.toList) w w' ∧ K.length = d.kept.length
theorem DkK.drew {T : TypeId} {w : World} {p g cap : Nat} {v : Value} {d : Dk} {K : List ByteArray} {w' : World} (h : DkK T w p g cap v d K w') : DkK T w p g cap v d K w'.drew := ⟨h.1.on fun _ _ => rfl, h.2.1.drew, h.2.2⟩
theorem DkK.alloc {T : TypeId} {w : World} {p g cap : Nat} {v : Value} {d : Dk} {K : List ByteArray} {w' : World} (h : DkK T w p g cap v d K w') (o : Obj) : DkK T w p g cap v d K (w'.alloc o) := ⟨h.1.below ((Below.refl _ _).alloc (Nat.le_refl _) _), h.2.1.alloc _, h.2.2⟩
theorem DkK.facts {T : TypeId} {w : World} {p g cap : Nat} {v : Value} {d : Dk} {K : List ByteArray} {w' : World} (h : DkK T w p g cap v d K w') :
    w'.cell? ⟨p, 0, none⟩ = some (.slice (some ⟨g, 0, none⟩) d.kept.length cap) ∧ w'.cell? ⟨p, 1, none⟩ = some v ∧ w'.cell? ⟨p, 2, none⟩ = some (.bool d.down) ∧ w'.frozen? ⟨p, 1, none⟩ = false ∧ w'.frozen? ⟨p, 2, none⟩ = false ∧ p < w'.heap.size ∧ g < w'.heap.size := by
  obtain ⟨h1, _, h3⟩ := h
  have c0 := h1.c0
  rw [show (Dk.mk K d.waits d.down).kept.length = d.kept.length from h3] at c0
  exact ⟨c0, h1.c1, h1.c2, h1.f1, h1.f2, h1.lt p (by simp), h1.lt g (by simp)⟩
theorem DkK.wait {T : TypeId} {w : World} {p g cap : Nat} {v : Value} {d : Dk} {K : List ByteArray} {w' : World} (h : DkK T w p g cap v d K w') {j : Nat} (hj : j < d.waits.length) {x : Wt} (hx : d.waits.getD j (0, ⟨#[]⟩) = x) : x.1 < d.kept.length ∧ x.2.size = 64 ∧ (∃ gw cw, v = .slice (some ⟨gw, 0, none⟩) d.waits.length cw ∧
    w'.cell? ⟨gw, j * 2, none⟩ = some (.int .i64 (x.1 : Int)) ∧ w'.cell? ⟨gw, j * 2 + 1, none⟩ = some (.string x.2) ∧ gw < w'.heap.size) ∧ w'.cell? ⟨g, x.1, none⟩ = some (.string (K.getD x.1 ⟨#[]⟩)) ∧ w'.frozen? ⟨g, x.1, none⟩ = false ∧ (K.getD x.1 ⟨#[]⟩).size = 64 := by
  obtain ⟨h1, _, h3⟩ := h
  have hm : x ∈ d.waits := by rw [← hx, List.getD, List.getElem?_eq_getElem hj]; exact List.getElem_mem hj
  have ho := h1.ok.ws x hm
  have hl : x.1 < K.length := ho.1
  obtain ⟨gw, cw, e, a1, a2⟩ := rowW_some h1.rw hj
  rw [hx] at a1 a2
  exact ⟨by rw [← h3]; exact hl, ho.2, ⟨gw, cw, e, a1, a2, World.block_lt_of_cell? w' ⟨gw, j * 2, none⟩ a1⟩, rowT_cell h1.rk hl, rowT_froz h1.rk _, getD_sz h1.ok.sz hl⟩
theorem DkK.set {T : TypeId} {w : World} {p g cap : Nat} {v : Value} {d : Dk} {K : List ByteArray} {w' : World} (h : DkK T w p g cap v d K w') (i : Nat) {s : ByteArray} (hs : s.size = 64) : DkK T w p g cap v d (K.set i s) (w'.setCell ⟨g, i, none⟩ (.string s)) :=
  ⟨h.1.setKept i hs, h.2.1.setCell (.inl (by simp)) _, by rw [List.length_set]; exact h.2.2⟩
theorem DkK.done {T : TypeId} {w : World} {p g cap : Nat} {v : Value} {d : Dk} {K : List ByteArray} {w' : World} (h : DkK T w p g cap v d K w') : Becomes (p :: g :: v.ownBlock.toList) (dkA T p ⟨K, [], true⟩) w ((w'.setCell ⟨p, 1, none⟩ (.slice none 0 0)).setCell ⟨p, 2, none⟩ (.bool true)) := by
  obtain ⟨h1, h2, _⟩ := h
  exact ⟨_, ⟨g, cap, _, h1.setNil.setDown true, rfl⟩, (h2.setCell (.inl (by simp)) _).setCell (.inl (by simp)) _, fun k hk => .inl (by simp [Value.ownBlock] at hk ⊢; rcases hk with e | e <;> simp [e])⟩
theorem crk_cons {m t n : Nat} {lost : Bool} {K : List ByteArray} {ws : List Wt} (hn : n < ws.length) {x : Wt} (hx : ws.getD n (0, ⟨#[]⟩) = x) : crk m t n lost K (ws.drop n) =
    if bitK m n then crk m t (n + 1) lost (K.set x.1 x.2) (ws.drop (n + 1)) else if lost then crk m t (n + 1) true K (ws.drop (n + 1)) else crk m t (n + 1) true (K.set x.1 (x.2.extract 0 t ++ (K.getD x.1 ⟨#[]⟩).extract t 64)) (ws.drop (n + 1)) := by
  rw [List.drop_eq_getElem_cons hn, show ws[n] = x by rw [← hx]; simp [List.getD, hn], crk]
theorem bit_test (m n : Nat) (hm : m ≤ 9223372036854775807) : (bits .and .i64 ((m : Int) / 2 ^ n) 1 == 1) = m.testBit n := by
  have hle : m / 2 ^ n ≤ m := Nat.div_le_self _ _
  have hq : (m : Int) / 2 ^ n = ((m / 2 ^ n : Nat) : Int) := by simp
  rw [Nat.testBit_eq_decide_div_mod_eq, hq]
  generalize m / 2 ^ n = q at *
  have h := bits_mask .i64 63 (by decide) (fun n h0 h1 => by rw [IntKind.wrap_i64]; omega) 1 (by decide) (q : Int) (by omega) (by omega)
  rw [show ((2 : Int) ^ 1 - 1) = 1 from rfl, show ((2 : Int) ^ 1) = 2 from rfl] at h
  rw [h, Bool.eq_iff_iff]
  simp only [beq_iff_eq, decide_eq_true_eq]
  omega
set_option maxRecDepth 100000 in
set_option maxHeartbeats 4000000 in
theorem krcrash1 (p : Nat) (d : Dk) (m t tt : Nat) (htt : min t 64 = tt) (hm : m ≤ 9223372036854775807) (ht : t ≤ 9223372036854775807) (hd : d.down = false) : Does Tryz.prog (dkA TR p d) 25 #[.pointer (some ⟨p, 0, none⟩), .int .i64 m, .int .i64 t] (.returned (.int .i64 0)) (dkA TR p ⟨crk m tt 0 false d.kept d.waits, [], true⟩) := by
  intro w F h
  obtain ⟨g, cap, v, hi, rfl⟩ := h
  have c2 := hi.c2
  rw [hd] at c2
  have hfew := rowW_few hi.rw
  unfold maxLen at hfew
  have h0 : DkK TR w p g cap v d d.kept w := ⟨hi, Tn.refl _ _, rfl⟩
  obtain ⟨ao, c, rfl⟩ := rowW_shape hi.rw
  clear hi
  generalize hR : crk m tt 0 false d.kept d.waits = R
  go_enter Tryz.func25, Tryz.ntmps25
  go_wp2
  go_loopw [7, 8] (fun l x wr => ∃ (n : Nat) (lost : Bool) (K : List ByteArray), n ≤ d.waits.length ∧ l = .bool lost ∧ x = .int .i64 (n : Int) ∧ crk m tt n lost K (d.waits.drop n) = R ∧ DkK TR w p g cap (.slice ao d.waits.length c) d K wr) (fun _ x _ => d.waits.length - (intOf x).toNat)
  case atStart => exact ⟨0, false, d.kept, Nat.zero_le _, rfl, rfl, hR, h0⟩
  case round =>
    clear hR h0
    obtain ⟨n, lost, K, hn, rfl, rfl, hc, hk⟩ := hrel
    obtain ⟨e0, e1, e9, g1, g2, p1, p2⟩ := hk.facts
    rw [hd] at e9
    by_cases hlt : n < d.waits.length
    · obtain ⟨x, hx⟩ : ∃ x, d.waits.getD n (0, ⟨#[]⟩) = x := ⟨_, rfl⟩
      obtain ⟨b1, b2, ⟨gw, cw, hv, e2, e3, p3⟩, e4, g4, z4⟩ := hk.wait hlt hx
      obtain ⟨rfl, rfl⟩ : ao = some ⟨gw, 0, none⟩ ∧ c = cw := by simpa using hv
      clear hv
      rw [crk_cons hlt hx] at hc
      have hbt := bit_test m n hm
      have hA := (hk.alloc (.cells #[.int .i64 (x.1 : Int), .string x.2] TR)).drew
      have l0 : (wr.alloc (.cells #[.int .i64 (x.1 : Int), .string x.2] TR)).drew.cell? ⟨wr.heap.size, 0, none⟩ = some (.int .i64 (x.1 : Int)) := by simp
      have l1 : (wr.alloc (.cells #[.int .i64 (x.1 : Int), .string x.2] TR)).drew.cell? ⟨wr.heap.size, 1, none⟩ = some (.string x.2) := by simp
      obtain ⟨a0, _, _, _, _, _, _⟩ := hA.facts
      obtain ⟨_, _, _, a4, k4, _⟩ := hA.wait hlt hx
      cases hb : bitK m n with
      | true =>
        rw [hb, if_pos rfl] at hc
        obtain ⟨h30, h31⟩ : n < 30 ∧ m.testBit n = true := by simpa [bitK] using hb
        rw [h31] at hbt
        have HK := Lib.hid ((hk.set x.1 b2).alloc (.cells #[.int .i64 (x.1 : Int), .string x.2] TR)).drew
        have HC := Lib.hid hc
        clear hx hk hA hb hc h31 e4 g4
        go_wp2
        refine region_tail 9 (by kernel_rfl) (by kernel_rfl) fun W hW => ?_
        rw [← hW] at a0 a4 k4 l0 l1
        have HW := Lib.hid hW
        clear hW
        simp only [List.take_succ_cons, List.take_zero, List.drop_succ_cons, List.drop_zero]
        repeat still_step
        refine wpStill_nil ?_
        have hW := HW.out
        subst hW
        go_wp2
        go_round
        case rel => exact ⟨n + 1, lost, _, by omega, rfl, by go_num, HC.out, HK.out⟩
        case measure => simp [intOf]; omega
      | false =>
        rw [hb, if_neg (by decide)] at hc
        cases lost with
        | true =>
          rw [if_pos rfl] at hc
          have HK := Lib.hid (hk.alloc (.cells #[.int .i64 (x.1 : Int), .string x.2] TR))
          have HC := Lib.hid hc
          by_cases h30 : n < 30
          · have h31 : m.testBit n = false := by simpa [bitK, h30] using hb
            rw [h31] at hbt
            clear hx hk hA hb hc h31 e4 g4 a0 a4 k4 l0 l1
            go_wp2
            go_round
            case rel => exact ⟨n + 1, true, _, by omega, rfl, by go_num, HC.out, HK.out⟩
            case measure => simp [intOf]; omega
          · clear hx hk hA hb hc e4 g4 a0 a4 k4 l0 l1 hbt
            go_wp2
            go_round
            case rel => exact ⟨n + 1, true, _, by omega, rfl, by go_num, HC.out, HK.out⟩
            case measure => simp [intOf]; omega
        | false =>
          rw [if_neg (by decide)] at hc
          obtain ⟨Y, hY⟩ : ∃ Y, K.getD x.1 ⟨#[]⟩ = Y := ⟨_, rfl⟩
          rw [hY] at hc a4 z4
          have h31 : n < 30 → m.testBit n = false := fun h => by simpa [bitK, h] using hb
          have HK := Lib.hid (fun tt (h : tt ≤ 64) => ((hk.set x.1 (torn_sz (t := tt) b2 z4 h)).alloc (.cells #[.int .i64 (x.1 : Int), .string x.2] TR)).drew)
          by_cases t64 : t ≤ 64
          · obtain rfl : t = tt := by omega
            clear htt
            have HC := Lib.hid hc
            have t65 : (t : Int) ≤ 64 := by omega
            have t66 : ¬ 9223372036854775807 < min t 64 + (64 - t) := by omega
            by_cases h30 : n < 30
            · rw [h31 h30] at hbt
              clear hx hk hA hb hc e4 g4 h31
              go_wp2
              refine region_tail 22 (by kernel_rfl) (by kernel_rfl) fun W hW => ?_
              rw [← hW] at a0 a4 k4 l0 l1
              have HW := Lib.hid hW
              clear hW
              simp only [List.take_succ_cons, List.take_zero, List.drop_succ_cons, List.drop_zero]
              repeat still_step
              refine wpStill_nil ?_
              have hW := HW.out
              subst hW
              go_wp2
              go_round
              case rel => exact ⟨n + 1, true, _, by omega, rfl, by go_num, HC.out, HK.out t t64⟩
              case measure => simp [intOf]; omega
            · clear hx hk hA hb hc e4 g4 h31 hbt
              go_wp2
              refine region_tail 22 (by kernel_rfl) (by kernel_rfl) fun W hW => ?_
              rw [← hW] at a0 a4 k4 l0 l1
              have HW := Lib.hid hW
              clear hW
              simp only [List.take_succ_cons, List.take_zero, List.drop_succ_cons, List.drop_zero]
              repeat still_step
              refine wpStill_nil ?_
              have hW := HW.out
              subst hW
              go_wp2
              go_round
              case rel => exact ⟨n + 1, true, _, by omega, rfl, by go_num, HC.out, HK.out t t64⟩
              case measure => simp [intOf]; omega
          · obtain rfl : tt = 64 := by omega
            clear htt
            have h64 : x.2.extract 0 64 ++ Y.extract 64 64 = x.2.extract 0 64 := by rw [ByteArray.extract_eq_empty_iff.2 (Nat.min_le_left _ _)]; exact ByteArray.append_empty
            have HK64 := HK.out 64 (Nat.le_refl _)
            rw [h64] at HK64 hc
            have HK := Lib.hid HK64
            have HC := Lib.hid hc
            have t65 : (64 : Int) < t := by omega
            by_cases h30 : n < 30
            · rw [h31 h30] at hbt
              clear hx hk hA hb hc e4 g4 h31 h64 HK64
              go_wp2
              refine region_tail 22 (by kernel_rfl) (by kernel_rfl) fun W hW => ?_
              rw [← hW] at a0 a4 k4 l0 l1
              have HW := Lib.hid hW
              clear hW
              simp only [List.take_succ_cons, List.take_zero, List.drop_succ_cons, List.drop_zero]
              repeat still_step
              refine wpStill_nil ?_
              have hW := HW.out
              subst hW
              go_wp2
              go_round
              case rel => exact ⟨n + 1, true, _, by omega, rfl, by go_num, HC.out, HK.out⟩
              case measure => simp [intOf]; omega
            · clear hx hk hA hb hc e4 g4 h31 h64 HK64 hbt
              go_wp2
              refine region_tail 22 (by kernel_rfl) (by kernel_rfl) fun W hW => ?_
              rw [← hW] at a0 a4 k4 l0 l1
              have HW := Lib.hid hW
              clear hW
              simp only [List.take_succ_cons, List.take_zero, List.drop_succ_cons, List.drop_zero]
              repeat still_step
              refine wpStill_nil ?_
              have hW := HW.out
              subst hW
              go_wp2
              go_round
              case rel => exact ⟨n + 1, true, _, by omega, rfl, by go_num, HC.out, HK.out⟩
              case measure => simp [intOf]; omega
    · obtain rfl : n = d.waits.length := by omega
      rw [List.drop_length, crk] at hc
      subst hc
      have HK := Lib.hid hk.done
      clear hk
      go_wp2
      go_ret
      exact ⟨rfl, HK.out⟩
theorem krcrash (p : Nat) (d : Dk) (m t : Int) (hm : m ≤ 9223372036854775807) (ht : t ≤ 9223372036854775807) : Does Tryz.prog (dkA TR p d) 25 #[.pointer (some ⟨p, 0, none⟩), .int .i64 m, .int .i64 t] (.returned (.int .i64 (d.crE m t))) (dkA TR p (d.cr m t)) := by
  cases hd : d.down with
  | true =>
    rw [show d.crE m t = 801 by unfold Dk.crE; rw [hd]; rfl, show d.cr m t = d by unfold Dk.cr; rw [hd]; rfl]
    intro w F h
    have hs := dkA_same h (Below.refl _ _)
    obtain ⟨g, cap, v, hi, rfl⟩ := h
    have c2 := hi.c2
    rw [hd] at c2
    clear hi
    go_enter Tryz.func25, Tryz.ntmps25
    go_wp2
    go_ret
    exact ⟨rfl, hs⟩
  | false =>
    by_cases hb : 0 ≤ m ∧ 0 ≤ t
    · obtain ⟨h0, h1⟩ := hb
      rw [show d.crE m t = 0 by unfold Dk.crE; rw [hd]; simp [h0, h1], show d.cr m t = ⟨crk m.toNat (min t.toNat 64) 0 false d.kept d.waits, [], true⟩ by unfold Dk.cr; rw [hd]; simp [h0, h1]]
      obtain ⟨m, rfl⟩ := Int.eq_ofNat_of_zero_le h0
      obtain ⟨t, rfl⟩ := Int.eq_ofNat_of_zero_le h1
      exact krcrash1 p d m t _ rfl (by omega) (by omega) hd
    · rw [show d.crE m t = 800 by unfold Dk.crE; rw [hd]; simp; omega, show d.cr m t = d by unfold Dk.cr; rw [hd]; simp; omega]
      intro w F h
      have hs := dkA_same h (Below.refl _ _)
      obtain ⟨g, cap, v, hi, rfl⟩ := h
      have c2 := hi.c2
      rw [hd] at c2
      clear hi
      by_cases h0 : m < 0
      · go_enter Tryz.func25, Tryz.ntmps25
        go_wp2
        go_ret
        exact ⟨rfl, hs⟩
      · have h1 : t < 0 := by omega
        go_enter Tryz.func25, Tryz.ntmps25
        go_wp2
        go_ret
        exact ⟨rfl, hs⟩
end Go.Proofs.YtbfpfmidjdonjaaGreatDoor
