/- Put together: Str9, Str10, Str11, Stp, Stq. Conditions: each theorem's own. -/
import Derived.Test.YtopkcaflmpjhgaaGreatBsb
namespace Go.Proofs.YtopkcaflmpjhgaaGreat
open Go Go.RowKit

/-- What an event upon a state of one's own comes to: the state behind it, or a refusal. -/
def ApS (w0 : World) (C : Ass) (o : Option St) (r : Ending) (w' : World) : Prop :=
  match o with
  | some s' => ∃ h' : Sv, r = .returned (.tuple #[.agg (stC h' s'), .bool true]) ∧ At w0 (StA h' s' C) w'
  | none => ∃ (h' : Sv) (s' : St), r = .returned (.tuple #[.agg (stC h' s'), .bool false]) ∧ At w0 C w'
theorem ApS.no {w0 : World} {C : Ass} {h : Sv} {s : St} {r : Ending} {w' : World} (q : r = .returned (.tuple #[.agg (stC h s), .bool false]) ∧ At w0 C w') : ApS w0 C none r w' := ⟨h, s, q⟩
theorem ixP_hold {α : Type} {p : α → Bool} {l : List α} {z : α} {i j : Nat} (h : ixP p l i = some j) : p (l.getD (j - i) z) = true := by
  induction l generalizing i with
  | nil => cases h
  | cons a r ih =>
    simp only [ixP] at h
    by_cases c : p a = true
    · rw [if_pos c] at h
      obtain rfl : i = j := by simpa using h
      simpa using c
    · rw [if_neg c] at h
      have h1 := ixP_pos h
      have h2 := ih h
      rw [show j - i = (j - (i + 1)) + 1 by omega]
      simpa using h2
theorem usAt_lt {us : List Us} {u : Int} {k : Nat} (h : usAt us u = some k) : k < us.length := by
  have := (ixP_pos h).2
  omega
theorem seAt_lt {ss : List Se} {u : Int} {k : Nat} (h : seAt ss u = some k) : k < ss.length := by
  have := (ixP_pos h).2
  omega
section
variable {w0 w : World} {C : Ass} {c : Cf} {s : St} {h : Sv} {kind user session address ea eb ec tick : Int}
theorem rleased (hC : C.Good) (hS : At w0 (StA h s C) w) (hi : StIn w h s) (hs0 : 0 ≤ session) (hs1 : session ≤ 1073741823) :
    Calls Tryz.prog 47 #[.agg (cfC c), .agg (stC h s), .agg (evA ⟨kind, user, session, address, ea, eb, ec, tick⟩)] w (ApS w0 C (if session = s.n ∧ (usAt s.us user).isSome ∧ (s.ss.length : Int) < c.ses ∧ ptOk s.ad address user then some { s with n := s.n + 1, ss := s.ss ++ [⟨session, user, address, tick⟩], ad := s.ad.set address.toNat ⟨true, user, 0⟩ } else none)) := by
  by_cases c1 : session = s.n
  · cases hx : usAt s.us user with
    | none =>
      rw [if_neg (by simp)]
      exact (rleased_b hC hS hi c1 hx).mono fun _ _ z => ApS.no z
    | some j =>
      by_cases c2 : (s.ss.length : Int) < c.ses
      · cases hp : ptOk s.ad address user with
        | false =>
          rw [if_neg (by simp)]
          exact (rleased_d hC hS hi c1 hx c2 hp).mono fun _ _ z => ApS.no z
        | true =>
          rw [if_pos ⟨c1, rfl, c2, rfl⟩, c1]
          exact rleased_y hC hS hi rfl (c1 ▸ hs0) (c1 ▸ hs1) hx c2 hp
      · rw [if_neg (fun q => c2 q.2.2.1)]
        exact (rleased_c hC hS hi c1 hx (by omega)).mono fun _ _ z => ApS.no z
  · rw [if_neg (fun q => c1 q.1)]
    exact (rleased_a hC hS c1).mono fun _ _ z => ApS.no z
theorem radded (hC : C.Good) (hS : At w0 (StA h s C) w) (hi : StIn w h s) :
    Calls Tryz.prog 50 #[.agg (stC h s), .agg (evA ⟨kind, user, session, address, ea, eb, ec, tick⟩)] w (ApS w0 C (if (usAt s.us user).isSome then none else some { s with us := stAdd ⟨user, ea, eb, ec, 0, 0, 0, 0, 0⟩ s.us })) := by
  cases hx : usAt s.us user with
  | none => exact radded_yes hC hS hi hx rfl
  | some j => exact (radded_no hC hS hi hx).mono fun _ _ z => ApS.no z
def clO (s : St) (session ea tick : Int) : Option St :=
  match seAt s.ss session with
    | none => none
    | some k => if pfOk s.ad (s.ss.getD k .none).a tick then some { s with
        ad := s.ad.set (s.ss.getD k .none).a.toNat ⟨false, (s.ad.getD (s.ss.getD k .none).a.toNat .none).l, tick⟩
        us := (match usAt s.us (s.ss.getD k .none).u with | some j => s.us.set j { s.us.getD j .none with used := stSum (s.us.getD j .none).used ea } | none => s.us)
        ss := s.ss.take k ++ s.ss.drop (k + 1) } else none
theorem rclosed (hC : C.Good) (hS : At w0 (StA h s C) w) (hi : StIn w h s) (ea0 : 0 ≤ ea) (ea1 : ea ≤ 1073741823) (hw : ∀ x ∈ s.us, -9223372036854775808 ≤ x.used ∧ x.used ≤ 9223372036854775807) :
    Calls Tryz.prog 48 #[.agg (stC h s), .agg (evA ⟨kind, user, session, address, ea, eb, ec, tick⟩)] w (ApS w0 C (clO s session ea tick)) := by
  obtain ⟨hu, huc, hs, hsc, hp, hpc, hi', hic⟩ := h
  unfold clO
  cases hx : seAt s.ss session with
  | none => exact (rclosed_a hC hS hi hx).mono fun _ _ z => ApS.no z
  | some k =>
    have hk := seAt_lt hx
    obtain ⟨gs, hgs, -, hcc⟩ := se_big hS.drop (by omega : 1 ≤ s.ss.length)
    obtain rfl : hs = some ⟨gs, 0, none⟩ := hgs
    show Calls _ _ _ _ (ApS w0 C (if pfOk s.ad (s.ss.getD k .none).a tick then _ else none))
    cases hp2 : pfOk s.ad (s.ss.getD k Se.none).a tick with
    | false => exact (rclosed_b hC hS hi hx hk rfl hp2).mono fun _ _ z => ApS.no z
    | true =>
      rw [if_pos rfl]
      cases hj : usAt s.us (s.ss.getD k Se.none).u with
      | none =>
        by_cases hne : hsc = k + 1
        · subst hne
          exact rclosed_ce hC hS hi hx hk rfl hp2 rfl hcc hj
        · exact rclosed_cn hC hS hi hx hk rfl hp2 rfl hcc hne hj
      | some j =>
        have hjl := usAt_lt hj
        obtain ⟨gu, hgu, -, -⟩ := us_big hS (by omega : 1 ≤ s.us.length)
        obtain rfl : hu = some ⟨gu, 0, none⟩ := hgu
        have hb := hw (s.us.getD j Us.none) (by rw [List.getD, List.getElem?_eq_getElem hjl]; exact List.getElem_mem _)
        by_cases hne : hsc = k + 1
        · subst hne
          exact rclosed_de hC hS hi hx hk rfl hp2 rfl hcc hj hjl rfl ea0 ea1 hb.1 hb.2
        · exact rclosed_dn hC hS hi hx hk rfl hp2 rfl hcc hne hj hjl rfl ea0 ea1 hb.1 hb.2
theorem rturned (hC : C.Good) (hS : At w0 (StA h s C) w) {k : Nat} (hk : k < s.us.length) (hkd : kind = 2 ∨ kind = 3 ∨ kind = 4 ∨ kind = 7) :
    Calls Tryz.prog 52 #[.agg (cfC c), .agg (stC h s), .int .i64 (k : Int), .agg (evA ⟨kind, user, session, address, ea, eb, ec, tick⟩)] w (ApS w0 C ((stTurn c (s.us.getD k .none) ⟨kind, user, session, address, ea, eb, ec, tick⟩).map fun x => { s with us := s.us.set k x })) := by
  obtain ⟨hu, huc, hs, hsc, hp, hpc, hi', hic⟩ := h
  obtain ⟨gu, hgu, -, -⟩ := us_big hS (by omega : 1 ≤ s.us.length)
  obtain rfl : hu = some ⟨gu, 0, none⟩ := hgu
  generalize hx : s.us.getD k Us.none = x
  have no : ∀ {r : Ending} {w' : World}, r = .returned (.tuple #[.agg (stC ⟨some ⟨gu, 0, none⟩, huc, hs, hsc, hp, hpc, hi', hic⟩ s), .bool false]) ∧ At w0 (StA ⟨some ⟨gu, 0, none⟩, huc, hs, hsc, hp, hpc, hi', hic⟩ s C) w' → ApS w0 C none r w' := fun z => ⟨_, _, z.1, z.2.stDrop⟩
  have yes : ∀ {x' : Us} {r : Ending} {w' : World}, r = .returned (.tuple #[.agg (stC ⟨some ⟨gu, 0, none⟩, huc, hs, hsc, hp, hpc, hi', hic⟩ { s with us := s.us.set k x' }), .bool true]) ∧ At w0 (StA ⟨some ⟨gu, 0, none⟩, huc, hs, hsc, hp, hpc, hi', hic⟩ { s with us := s.us.set k x' } C) w' → ApS w0 C (some { s with us := s.us.set k x' }) r w' := fun z => ⟨_, z⟩
  unfold stTurn
  rcases hkd with rfl | rfl | rfl | rfl
  · rw [if_pos rfl]
    by_cases hok : lkOk x.lf x.lu tick c.fai c.loc
    · rw [if_pos hok]
      exact (rturned2 hC hS hk hx hok rfl rfl).mono fun _ _ z => yes z
    · rw [if_neg hok]
      exact (rturned2n hC hS hk hx hok).mono fun _ _ z => no z
  · dsimp only
    rw [if_neg (by decide), if_pos rfl]
    by_cases hok : x.st < ea
    · rw [if_pos hok]
      exact (rturned3 hC hS hk hx hok).mono fun _ _ z => yes z
    · rw [if_neg hok]
      exact (rturned3n hC hS hk hx (by omega)).mono fun _ _ z => no z
  · dsimp only
    rw [if_neg (by decide), if_neg (by decide), if_pos rfl]
    exact (rturned4 hC hS hk hx).mono fun _ _ z => yes z
  · dsimp only
    rw [if_neg (by decide), if_neg (by decide), if_neg (by decide), if_pos rfl]
    by_cases hok : 0 ≤ x.g ∧ x.g < 1073741823
    · rw [if_pos hok]
      exact (rturned7 hC hS hk hx hok.1 hok.2).mono fun _ _ z => yes z
    · rw [if_neg hok]
      by_cases h0 : x.g < 0
      · exact (rturned7n hC hS hk hx h0).mono fun _ _ z => no z
      · exact (rturned7m hC hS hk hx (by omega)).mono fun _ _ z => no z
set_option maxRecDepth 100000 in
set_option maxHeartbeats 8000000 in
theorem rbooted_lo (hC : C.Good) (hS : At w0 (StA h s C) w) (hb : s.b < 0) :
    Calls Tryz.prog 46 #[.agg (cfC c), .agg (stC h s), .agg (evA ⟨kind, user, session, address, ea, eb, ec, tick⟩)] w fun r w' => r = .returned (.tuple #[.agg (stC h s), .bool false]) ∧ At w0 C w' := by
  have HS := Lib.hid hS
  clear hS
  go_enter Tryz.func46, Tryz.ntmps46
  go_wp2
  refine bodyPost_ret (v := .tuple #[.agg (stC h s), .bool false]) (by simp [*, results, Tryz.results46, go_sem]) rfl ⟨rfl, ?_⟩
  exact ((((HS.out.lay1 (StA_good hC) _).lay1 (StA_good hC) _).lay1 (StA_good hC) _).lay1 (StA_good hC) _).stDrop
set_option maxRecDepth 100000 in
set_option maxHeartbeats 8000000 in
theorem rbooted_hi (hC : C.Good) (hS : At w0 (StA h s C) w) (hb : 1073741823 ≤ s.b) :
    Calls Tryz.prog 46 #[.agg (cfC c), .agg (stC h s), .agg (evA ⟨kind, user, session, address, ea, eb, ec, tick⟩)] w fun r w' => r = .returned (.tuple #[.agg (stC h s), .bool false]) ∧ At w0 C w' := by
  have HS := Lib.hid hS
  clear hS
  have h0 : ¬ s.b < 0 := by omega
  go_enter Tryz.func46, Tryz.ntmps46
  go_wp2
  refine bodyPost_ret (v := .tuple #[.agg (stC h s), .bool false]) (by simp [*, results, Tryz.results46, go_sem]) rfl ⟨rfl, ?_⟩
  exact ((((HS.out.lay1 (StA_good hC) _).lay1 (StA_good hC) _).lay1 (StA_good hC) _).lay1 (StA_good hC) _).stDrop
theorem rbooted (hC : C.Good) (hS : At w0 (StA h s C) w) (hi : StIn w h s) (t0 : 0 ≤ tick) (t1 : tick ≤ 1048575) (q0 : 0 ≤ c.qua) (q1 : c.qua ≤ 65536) :
    Calls Tryz.prog 46 #[.agg (cfC c), .agg (stC h s), .agg (evA ⟨kind, user, session, address, ea, eb, ec, tick⟩)] w (ApS w0 C (if 0 ≤ s.b ∧ s.b < 1073741823 then (stFreeAll (tick + c.qua) s.ss s.ad).map fun ad => { s with b := s.b + 1, ss := [], ad := ad } else none)) := by
  by_cases hb : 0 ≤ s.b ∧ s.b < 1073741823
  · rw [if_pos hb]
    obtain ⟨hu, huc, hs, hsc, hp, hpc, hi', hic⟩ := h
    cases hR : stFreeAll (tick + c.qua) s.ss s.ad with
    | none => exact rbooted_n hC hS hi hb.1 hb.2 t0 t1 q0 q1 hR
    | some ad => exact rbooted_y hC hS hi hb.1 hb.2 t0 t1 q0 q1 hR
  · rw [if_neg hb]
    by_cases h0 : s.b < 0
    · exact (rbooted_lo hC hS h0).mono fun _ _ z => ApS.no z
    · exact (rbooted_hi hC hS (by omega)).mono fun _ _ z => ApS.no z
/-- The rows to the front, the blocks behind; and back. -/
theorem OB.into (l : List Ob) (h : Sv) (s : St) (C : Ass) : (OB l (StA h s C)).imp (StA h s (OB l C)) :=
  (OB.up l _ _).trans (((OB.up l _ _).trans (((OB.up l _ _).trans ((OB.up l _ _).under _)).under _)).under _)
theorem OB.outof (l : List Ob) (h : Sv) (s : St) (C : Ass) : (StA h s (OB l C)).imp (OB l (StA h s C)) :=
  ((((((OB.dn l _ C).under _).trans (OB.dn l _ _)).under _).trans (OB.dn l _ _)).under _).trans (OB.dn l _ _)
end
end Go.Proofs.YtopkcaflmpjhgaaGreat

namespace Go.Proofs.YtopkcaflmpjhgaaGreat
open Go Go.RowKit

set_option maxRecDepth 100000 in
set_option maxHeartbeats 8000000 in
theorem rapplied0 {w0 w : World} {C : Ass} (hC : C.Good) {c : Cf} {s : St} {h : Sv} (hS : At w0 (StA h s C) w) (hi : StIn w h s) {user session address ea eb ec tick : Int} (t0 : 0 ≤ tick) (t1 : tick ≤ 1048575) (q0 : 0 ≤ c.qua) (q1 : c.qua ≤ 65536) :
    Calls Tryz.prog 32 #[.agg (cfC c), .agg (stC h s), .agg (evA ⟨0, user, session, address, ea, eb, ec, tick⟩)] w (ApS w0 C (if 0 ≤ s.b ∧ s.b < 1073741823 then (stFreeAll (tick + c.qua) s.ss s.ad).map fun ad => { s with b := s.b + 1, ss := [], ad := ad } else none)) := by
  have HQ := Lib.hid (ob4 (StA_good hC) hS (cfC c) (stC h s) (evA ⟨0, user, session, address, ea, eb, ec, tick⟩) stZ TCf TSt TEvt TSt)
  have HI := Lib.hid hi
  have HB := Lib.hid (rbooted (c := c) (kind := 0) (user := user) (session := session) (address := address) (ea := ea) (eb := eb) (ec := ec) (OB.good hC) (HQ.out.imp (OB.into _ _ _ _)) (OB.stIn HQ.out hi) t0 t1 q0 q1)
  generalize ((if 0 ≤ s.b ∧ s.b < 1073741823 then (stFreeAll (tick + c.qua) s.ss s.ad).map fun ad => { s with b := s.b + 1, ss := [], ad := ad } else none) : Option St) = opt at HB ⊢
  clear hS hi
  cases opt with
  | some s' =>
    go_enter Tryz.func32, Tryz.ntmps32
    go_wp2_with (first
        | (go_at_call 46; (with_reducible refine (HB.out).mono ?_); rintro r w1 ⟨h', rfl, hS1⟩; have q1 := hS1.imp (OB.outof _ _ _ _); clear hS1; have kR := OB.at q1 (i := 3) rfl; have eR := kR.cell; have gR := kR.froz; have lR := kR.lt))
    refine bodyPost_ret (v := .tuple #[.agg (stC h' s'), .bool true]) (by simp [*, results, Tryz.results32, go_sem]) rfl ⟨h', rfl, OB.wr7 (StA_good hC) q1 (i := 3) rfl (.int .i64 s'.b) (.int .i64 s'.e) (.int .i64 s'.n) (.slice h'.u s'.us.length h'.uc) (.slice h'.s s'.ss.length h'.sc) (.slice h'.p s'.ad.length h'.pc) (.slice h'.i s'.sp.length h'.ic)⟩
  | none =>
    go_enter Tryz.func32, Tryz.ntmps32
    go_wp2_with (first
        | (go_at_call 46; (with_reducible refine (HB.out).mono ?_); rintro r w1 ⟨h', s', rfl, q1⟩; have kR := OB.at q1 (i := 3) rfl; have eR := kR.cell; have gR := kR.froz; have lR := kR.lt))
    refine bodyPost_ret (v := .tuple #[.agg (stC h' s'), .bool false]) (by simp [*, results, Tryz.results32, go_sem]) rfl ⟨h', s', rfl, OB.wr7 hC q1 (i := 3) rfl (.int .i64 s'.b) (.int .i64 s'.e) (.int .i64 s'.n) (.slice h'.u s'.us.length h'.uc) (.slice h'.s s'.ss.length h'.sc) (.slice h'.p s'.ad.length h'.pc) (.slice h'.i s'.sp.length h'.ic)⟩
set_option maxRecDepth 100000 in
set_option maxHeartbeats 8000000 in
theorem rapplied5 {w0 w : World} {C : Ass} (hC : C.Good) {c : Cf} {s : St} {h : Sv} (hS : At w0 (StA h s C) w) (hi : StIn w h s) {user session address ea eb ec tick : Int} (hs0 : 0 ≤ session) (hs1 : session ≤ 1073741823) :
    Calls Tryz.prog 32 #[.agg (cfC c), .agg (stC h s), .agg (evA ⟨5, user, session, address, ea, eb, ec, tick⟩)] w (ApS w0 C (if session = s.n ∧ (usAt s.us user).isSome ∧ (s.ss.length : Int) < c.ses ∧ ptOk s.ad address user then some { s with n := s.n + 1, ss := s.ss ++ [⟨session, user, address, tick⟩], ad := s.ad.set address.toNat ⟨true, user, 0⟩ } else none)) := by
  have HQ := Lib.hid (ob4 (StA_good hC) hS (cfC c) (stC h s) (evA ⟨5, user, session, address, ea, eb, ec, tick⟩) stZ TCf TSt TEvt TSt)
  have HI := Lib.hid hi
  have HB := Lib.hid (rleased (c := c) (kind := 5) (user := user) (address := address) (ea := ea) (eb := eb) (ec := ec) (tick := tick) (OB.good hC) (HQ.out.imp (OB.into _ _ _ _)) (OB.stIn HQ.out hi) hs0 hs1)
  generalize ((if session = s.n ∧ (usAt s.us user).isSome ∧ (s.ss.length : Int) < c.ses ∧ ptOk s.ad address user then some { s with n := s.n + 1, ss := s.ss ++ [⟨session, user, address, tick⟩], ad := s.ad.set address.toNat ⟨true, user, 0⟩ } else none) : Option St) = opt at HB ⊢
  clear hS hi
  cases opt with
  | some s' =>
    go_enter Tryz.func32, Tryz.ntmps32
    go_wp2_with (first
        | (go_at_call 47; (with_reducible refine (HB.out).mono ?_); rintro r w1 ⟨h', rfl, hS1⟩; have q1 := hS1.imp (OB.outof _ _ _ _); clear hS1; have kR := OB.at q1 (i := 3) rfl; have eR := kR.cell; have gR := kR.froz; have lR := kR.lt))
    refine bodyPost_ret (v := .tuple #[.agg (stC h' s'), .bool true]) (by simp [*, results, Tryz.results32, go_sem]) rfl ⟨h', rfl, OB.wr7 (StA_good hC) q1 (i := 3) rfl (.int .i64 s'.b) (.int .i64 s'.e) (.int .i64 s'.n) (.slice h'.u s'.us.length h'.uc) (.slice h'.s s'.ss.length h'.sc) (.slice h'.p s'.ad.length h'.pc) (.slice h'.i s'.sp.length h'.ic)⟩
  | none =>
    go_enter Tryz.func32, Tryz.ntmps32
    go_wp2_with (first
        | (go_at_call 47; (with_reducible refine (HB.out).mono ?_); rintro r w1 ⟨h', s', rfl, q1⟩; have kR := OB.at q1 (i := 3) rfl; have eR := kR.cell; have gR := kR.froz; have lR := kR.lt))
    refine bodyPost_ret (v := .tuple #[.agg (stC h' s'), .bool false]) (by simp [*, results, Tryz.results32, go_sem]) rfl ⟨h', s', rfl, OB.wr7 hC q1 (i := 3) rfl (.int .i64 s'.b) (.int .i64 s'.e) (.int .i64 s'.n) (.slice h'.u s'.us.length h'.uc) (.slice h'.s s'.ss.length h'.sc) (.slice h'.p s'.ad.length h'.pc) (.slice h'.i s'.sp.length h'.ic)⟩
set_option maxRecDepth 100000 in
set_option maxHeartbeats 8000000 in
theorem rapplied6 {w0 w : World} {C : Ass} (hC : C.Good) {c : Cf} {s : St} {h : Sv} (hS : At w0 (StA h s C) w) (hi : StIn w h s) {user session address ea eb ec tick : Int} (ea0 : 0 ≤ ea) (ea1 : ea ≤ 1073741823) (hw : ∀ x ∈ s.us, -9223372036854775808 ≤ x.used ∧ x.used ≤ 9223372036854775807) :
    Calls Tryz.prog 32 #[.agg (cfC c), .agg (stC h s), .agg (evA ⟨6, user, session, address, ea, eb, ec, tick⟩)] w (ApS w0 C (clO s session ea tick)) := by
  have HQ := Lib.hid (ob4 (StA_good hC) hS (cfC c) (stC h s) (evA ⟨6, user, session, address, ea, eb, ec, tick⟩) stZ TCf TSt TEvt TSt)
  have HI := Lib.hid hi
  have HB := Lib.hid (rclosed (kind := 6) (user := user) (session := session) (address := address) (ea := ea) (eb := eb) (ec := ec) (tick := tick) (OB.good hC) (HQ.out.imp (OB.into _ _ _ _)) (OB.stIn HQ.out hi) ea0 ea1 hw)
  generalize ((clO s session ea tick) : Option St) = opt at HB ⊢
  clear hS hi
  cases opt with
  | some s' =>
    go_enter Tryz.func32, Tryz.ntmps32
    go_wp2_with (first
        | (go_at_call 48; (with_reducible refine (HB.out).mono ?_); rintro r w1 ⟨h', rfl, hS1⟩; have q1 := hS1.imp (OB.outof _ _ _ _); clear hS1; have kR := OB.at q1 (i := 3) rfl; have eR := kR.cell; have gR := kR.froz; have lR := kR.lt))
    refine bodyPost_ret (v := .tuple #[.agg (stC h' s'), .bool true]) (by simp [*, results, Tryz.results32, go_sem]) rfl ⟨h', rfl, OB.wr7 (StA_good hC) q1 (i := 3) rfl (.int .i64 s'.b) (.int .i64 s'.e) (.int .i64 s'.n) (.slice h'.u s'.us.length h'.uc) (.slice h'.s s'.ss.length h'.sc) (.slice h'.p s'.ad.length h'.pc) (.slice h'.i s'.sp.length h'.ic)⟩
  | none =>
    go_enter Tryz.func32, Tryz.ntmps32
    go_wp2_with (first
        | (go_at_call 48; (with_reducible refine (HB.out).mono ?_); rintro r w1 ⟨h', s', rfl, q1⟩; have kR := OB.at q1 (i := 3) rfl; have eR := kR.cell; have gR := kR.froz; have lR := kR.lt))
    refine bodyPost_ret (v := .tuple #[.agg (stC h' s'), .bool false]) (by simp [*, results, Tryz.results32, go_sem]) rfl ⟨h', s', rfl, OB.wr7 hC q1 (i := 3) rfl (.int .i64 s'.b) (.int .i64 s'.e) (.int .i64 s'.n) (.slice h'.u s'.us.length h'.uc) (.slice h'.s s'.ss.length h'.sc) (.slice h'.p s'.ad.length h'.pc) (.slice h'.i s'.sp.length h'.ic)⟩
set_option maxRecDepth 100000 in
set_option maxHeartbeats 8000000 in
theorem rapplied1 {w0 w : World} {C : Ass} (hC : C.Good) {c : Cf} {s : St} {h : Sv} (hS : At w0 (StA h s C) w) (hi : StIn w h s) {user session address ea eb ec tick : Int} :
    Calls Tryz.prog 32 #[.agg (cfC c), .agg (stC h s), .agg (evA ⟨1, user, session, address, ea, eb, ec, tick⟩)] w (ApS w0 C (if (usAt s.us user).isSome then none else some { s with us := stAdd ⟨user, ea, eb, ec, 0, 0, 0, 0, 0⟩ s.us })) := by
  have HQ := Lib.hid (ob4 (StA_good hC) hS (cfC c) (stC h s) (evA ⟨1, user, session, address, ea, eb, ec, tick⟩) stZ TCf TSt TEvt TSt)
  have HI := Lib.hid hi
  have HB := Lib.hid (radded (kind := 1) (user := user) (session := session) (address := address) (ea := ea) (eb := eb) (ec := ec) (tick := tick) (OB.good hC) (HQ.out.imp (OB.into _ _ _ _)) (OB.stIn HQ.out hi))
  generalize ((if (usAt s.us user).isSome then none else some { s with us := stAdd ⟨user, ea, eb, ec, 0, 0, 0, 0, 0⟩ s.us }) : Option St) = opt at HB ⊢
  clear hS hi
  cases opt with
  | some s' =>
    go_enter Tryz.func32, Tryz.ntmps32
    go_wp2_with (first
        | (go_at_call 50; (with_reducible refine (HB.out).mono ?_); rintro r w1 ⟨h', rfl, hS1⟩; have q1 := hS1.imp (OB.outof _ _ _ _); clear hS1; have kR := OB.at q1 (i := 3) rfl; have eR := kR.cell; have gR := kR.froz; have lR := kR.lt))
    refine bodyPost_ret (v := .tuple #[.agg (stC h' s'), .bool true]) (by simp [*, results, Tryz.results32, go_sem]) rfl ⟨h', rfl, OB.wr7 (StA_good hC) q1 (i := 3) rfl (.int .i64 s'.b) (.int .i64 s'.e) (.int .i64 s'.n) (.slice h'.u s'.us.length h'.uc) (.slice h'.s s'.ss.length h'.sc) (.slice h'.p s'.ad.length h'.pc) (.slice h'.i s'.sp.length h'.ic)⟩
  | none =>
    go_enter Tryz.func32, Tryz.ntmps32
    go_wp2_with (first
        | (go_at_call 50; (with_reducible refine (HB.out).mono ?_); rintro r w1 ⟨h', s', rfl, q1⟩; have kR := OB.at q1 (i := 3) rfl; have eR := kR.cell; have gR := kR.froz; have lR := kR.lt))
    refine bodyPost_ret (v := .tuple #[.agg (stC h' s'), .bool false]) (by simp [*, results, Tryz.results32, go_sem]) rfl ⟨h', s', rfl, OB.wr7 hC q1 (i := 3) rfl (.int .i64 s'.b) (.int .i64 s'.e) (.int .i64 s'.n) (.slice h'.u s'.us.length h'.uc) (.slice h'.s s'.ss.length h'.sc) (.slice h'.p s'.ad.length h'.pc) (.slice h'.i s'.sp.length h'.ic)⟩
set_option maxRecDepth 100000 in
set_option maxHeartbeats 8000000 in
theorem rapplied8 {w0 w : World} {C : Ass} (hC : C.Good) {c : Cf} {s : St} {h : Sv} (hS : At w0 (StA h s C) w) {user session address ea eb ec tick : Int} (hw : -9223372036854775808 ≤ s.e) :
    Calls Tryz.prog 32 #[.agg (cfC c), .agg (stC h s), .agg (evA ⟨8, user, session, address, ea, eb, ec, tick⟩)] w (ApS w0 C (if s.e < 1073741823 then some { s with e := s.e + 1 } else none)) := by
  have HS := Lib.hid hS
  clear hS
  by_cases c1 : s.e < 1073741823
  · rw [if_pos c1]
    have hwr : IntKind.i64.wrap (s.e + 1) = s.e + 1 := by rw [IntKind.wrap_i64]; omega
    have c2 : ¬ 1073741823 ≤ s.e := by omega
    go_enter Tryz.func32, Tryz.ntmps32
    go_wp2
    refine bodyPost_ret (v := .tuple #[.agg (stC h { s with e := s.e + 1 }), .bool true]) (by simp [*, results, Tryz.results32, go_sem]) rfl ⟨h, rfl, ((((HS.out.lay1 (StA_good hC) _).lay1 (StA_good hC) _).lay1 (StA_good hC) _).lay1 (StA_good hC) _)⟩
  · rw [if_neg c1]
    have c2 : 1073741823 ≤ s.e := by omega
    go_enter Tryz.func32, Tryz.ntmps32
    go_wp2
    refine bodyPost_ret (v := .tuple #[.agg (stC h s), .bool false]) (by simp [*, results, Tryz.results32, go_sem]) rfl ⟨h, s, rfl, At.stDrop ((((HS.out.lay1 (StA_good hC) _).lay1 (StA_good hC) _).lay1 (StA_good hC) _).lay1 (StA_good hC) _)⟩
set_option maxRecDepth 100000 in
set_option maxHeartbeats 8000000 in
theorem rapplied9 {w0 w : World} {C : Ass} (hC : C.Good) {c : Cf} {s : St} {h : Sv} (hS : At w0 (StA h s C) w) (hi : StIn w h s) {user session address ea eb ec tick : Int} :
    Calls Tryz.prog 32 #[.agg (cfC c), .agg (stC h s), .agg (evA ⟨9, user, session, address, ea, eb, ec, tick⟩)] w (ApS w0 C (if s.sp.contains session then none else some { s with sp := s.sp ++ [session] })) := by
  have HQ := Lib.hid (ob4 (StA_good hC) hS (cfC c) (stC h s) (evA ⟨9, user, session, address, ea, eb, ec, tick⟩) stZ TCf TSt TEvt TSt)
  have HI := Lib.hid hi
  have hf : s.sp.length + 1 ≤ 17592186044416 := by have := hi.fi; omega
  cases hc : s.sp.contains session with
  | true =>
    rw [if_pos rfl]
    have HP := Lib.hid (fun (W : World) (z : StIn W h s) => rspent z session hc)
    clear hS hi hc
    go_enter Tryz.func32, Tryz.ntmps32
    go_wp2_with (first
        | (go_at_call 49; (with_reducible refine (HP.out _ (OB.stIn HQ.out HI.out)).mono ?_); rintro r w1 ⟨rfl, hb⟩; have q1 := OB.lay (StA_good hC) HQ.out hb; clear hb; have k1 := OB.at q1 (i := 1) rfl; have e1 := k1.cell; have g1 := k1.froz; have l1 := k1.lt; have k2 := OB.at q1 (i := 2) rfl; have e2 := k2.cell; have g2 := k2.froz; have l2 := k2.lt; have k3 := OB.at q1 (i := 3) rfl; have e3 := k3.cell; have g3 := k3.froz; have l3 := k3.lt))
    refine bodyPost_ret (v := .tuple #[.agg (stC h s), .bool false]) (by simp [*, results, Tryz.results32, go_sem]) rfl ⟨h, s, rfl, (OB.wr7 (StA_good hC) q1 (i := 3) rfl (.int .i64 s.b) (.int .i64 s.e) (.int .i64 s.n) (.slice h.u s.us.length h.uc) (.slice h.s s.ss.length h.sc) (.slice h.p s.ad.length h.pc) (.slice h.i s.sp.length h.ic)).stDrop⟩
  | false =>
    rw [if_neg (by decide)]
    have HP := Lib.hid (fun (W : World) (z : StIn W h s) => rspent z session hc)
    clear hS hi hc
    go_enter Tryz.func32, Tryz.ntmps32
    go_wp2_with (first
        | (go_at_call 49; (with_reducible refine (HP.out _ (OB.stIn HQ.out HI.out)).mono ?_); rintro r w1 ⟨rfl, hb⟩; have q1 := OB.lay (StA_good hC) HQ.out hb; clear hb; have k1 := OB.at q1 (i := 1) rfl; have e1 := k1.cell; have g1 := k1.froz; have l1 := k1.lt; have k2 := OB.at q1 (i := 2) rfl; have e2 := k2.cell; have g2 := k2.froz; have l2 := k2.lt; have k3 := OB.at q1 (i := 3) rfl; have e3 := k3.cell; have g3 := k3.froz; have l3 := k3.lt; have q3 := q1.imp ((OB.under (Ass.imp.up3 _ _ _ _ _)).trans (OB.up _ _ _)))
        | (at_builtin; refine in_appLit2 (OB.good ((rowE_good _ _ _ _ _).star ((rowE_good _ _ _ _ _).star ((rowE_good _ _ _ _ _).star hC)))) rfl _ _ rfl h.i s.sp.length h.ic s.sp [session] 1 rfl rfl (by simp) rfl rfl q3 hf ?_; intro a5 c5 w5 hS5; have q5 := hS5.imp (OB.dn _ _ _); clear hS5; have k51 := OB.at q5 (i := 1) rfl; have e51 := k51.cell; have g51 := k51.froz; have l51 := k51.lt; have k53 := OB.at q5 (i := 3) rfl; have e53 := k53.cell; have g53 := k53.froz; have l53 := k53.lt; have q6 := OB.poke ((rowE_good _ _ _ _ _).star ((rowE_good _ _ _ _ _).star ((rowE_good _ _ _ _ _).star ((rowE_good _ _ _ _ _).star hC)))) q5 1 rfl 6 (.slice a5 (s.sp.length + 1) c5)))
    refine bodyPost_ret (v := .tuple #[.agg #[.int .i64 s.b, .int .i64 s.e, .int .i64 s.n, .slice h.u s.us.length h.uc, .slice h.s s.ss.length h.sc, .slice h.p s.ad.length h.pc, .slice a5 (s.sp.length + 1) c5], .bool true]) (by simp [*, results, Tryz.results32, go_sem]) rfl ⟨⟨h.u, h.uc, h.s, h.sc, h.p, h.pc, a5, c5⟩, by simp, ?_⟩
    have q7 := (OB.wr7 ((rowE_good _ _ _ _ _).star ((rowE_good _ _ _ _ _).star ((rowE_good _ _ _ _ _).star ((rowE_good _ _ _ _ _).star hC)))) q6 (i := 3) rfl (.int .i64 s.b) (.int .i64 s.e) (.int .i64 s.n) (.slice h.u s.us.length h.uc) (.slice h.s s.ss.length h.sc) (.slice h.p s.ad.length h.pc) (.slice a5 (s.sp.length + 1) c5)).imp (Ass.imp.dn3 _ _ _ _ _)
    simp only [StA, List.length_append, List.length_singleton] at q7 ⊢
    exact q7
set_option maxRecDepth 100000 in
set_option maxHeartbeats 8000000 in
theorem rappliedT {w0 w : World} {C : Ass} (hC : C.Good) {c : Cf} {s : St} {h : Sv} (hS : At w0 (StA h s C) w) (hi : StIn w h s) {kind user session address ea eb ec tick : Int} (hkd : kind = 2 ∨ kind = 3 ∨ kind = 4 ∨ kind = 7) :
    Calls Tryz.prog 32 #[.agg (cfC c), .agg (stC h s), .agg (evA ⟨kind, user, session, address, ea, eb, ec, tick⟩)] w (ApS w0 C (match usAt s.us user with
    | none => none
    | some k => (stTurn c (s.us.getD k .none) ⟨kind, user, session, address, ea, eb, ec, tick⟩).map fun x => { s with us := s.us.set k x })) := by
  have HQ := Lib.hid (ob4 (StA_good hC) hS (cfC c) (stC h s) (evA ⟨kind, user, session, address, ea, eb, ec, tick⟩) stZ TCf TSt TEvt TSt)
  have HI := Lib.hid hi
  have n0 : ¬ kind = 0 := by omega
  have n5 : ¬ kind = 5 := by omega
  have n6 : ¬ kind = 6 := by omega
  have n8 : ¬ kind = 8 := by omega
  have n9 : ¬ kind = 9 := by omega
  have n1 : ¬ kind = 1 := by omega
  cases hu : usAt s.us user with
  | none =>
    have HU := Lib.hid (fun (W : World) (z : StIn W h s) => ruserN z hu)
    clear hS hi hu hkd
    go_enter Tryz.func32, Tryz.ntmps32
    go_wp2_with (first
        | (go_at_call 51; (with_reducible refine (HU.out _ (OB.stIn HQ.out HI.out)).mono ?_); rintro r w1 ⟨rfl, hb⟩; have q0 := OB.lay (StA_good hC) HQ.out hb; clear hb; have k0 := OB.at q0 (i := 0) rfl; have e0 := k0.cell; have g0 := k0.froz; have l0 := k0.lt; have k1 := OB.at q0 (i := 1) rfl; have e1 := k1.cell; have g1 := k1.froz; have l1 := k1.lt; have k2 := OB.at q0 (i := 2) rfl; have e2 := k2.cell; have g2 := k2.froz; have l2 := k2.lt; have k3 := OB.at q0 (i := 3) rfl; have e3 := k3.cell; have g3 := k3.froz; have l3 := k3.lt))
    refine bodyPost_ret (v := .tuple #[.agg (stC h s), .bool false]) (by simp [*, results, Tryz.results32, go_sem]) rfl ⟨h, s, rfl, (OB.wr7 (StA_good hC) q0 (i := 3) rfl (.int .i64 s.b) (.int .i64 s.e) (.int .i64 s.n) (.slice h.u s.us.length h.uc) (.slice h.s s.ss.length h.sc) (.slice h.p s.ad.length h.pc) (.slice h.i s.sp.length h.ic)).stDrop⟩
  | some k =>
    have hk := usAt_lt hu
    have hk0 : ¬ (k : Int) < 0 := by omega
    have HU := Lib.hid (fun (W : World) (z : StIn W h s) => ruserI z hu)
    have HB := Lib.hid (fun (W : World) (z : At w0 (StA h s (OB [(w.heap.size, cfC c, TCf), (w.heap.size + 1, stC h s, TSt), (w.heap.size + 1 + 1, evA ⟨kind, user, session, address, ea, eb, ec, tick⟩, TEvt), (w.heap.size + 1 + 1 + 1, stZ, TSt)] C)) W) => rturned (c := c) (user := user) (session := session) (address := address) (ea := ea) (eb := eb) (ec := ec) (tick := tick) (OB.good hC) z hk hkd)
    show Calls _ _ _ _ (ApS w0 C ((stTurn c (s.us.getD k .none) ⟨kind, user, session, address, ea, eb, ec, tick⟩).map fun x => { s with us := s.us.set k x }))
    generalize ((stTurn c (s.us.getD k .none) ⟨kind, user, session, address, ea, eb, ec, tick⟩).map fun x => { s with us := s.us.set k x }) = opt at HB ⊢
    clear hS hi hu hkd
    cases opt with
    | some s' =>
      go_enter Tryz.func32, Tryz.ntmps32
      go_wp2_with (first
          | (go_at_call 51; (with_reducible refine (HU.out _ (OB.stIn HQ.out HI.out)).mono ?_); rintro r w1 ⟨rfl, hb⟩; have q0 := OB.lay (StA_good hC) HQ.out hb; clear hb; have k0 := OB.at q0 (i := 0) rfl; have e0 := k0.cell; have g0 := k0.froz; have l0 := k0.lt; have k1 := OB.at q0 (i := 1) rfl; have e1 := k1.cell; have g1 := k1.froz; have l1 := k1.lt; have k2 := OB.at q0 (i := 2) rfl; have e2 := k2.cell; have g2 := k2.froz; have l2 := k2.lt; have k3 := OB.at q0 (i := 3) rfl; have e3 := k3.cell; have g3 := k3.froz; have l3 := k3.lt; have HB2 := HB.out _ (q0.imp (OB.into _ _ _ _)))
          | (go_at_call 52; (with_reducible refine HB2.mono ?_); rintro r w2 ⟨h', rfl, hS1⟩; have q1 := hS1.imp (OB.outof _ _ _ _); clear hS1; have kR := OB.at q1 (i := 3) rfl; have eR := kR.cell; have gR := kR.froz; have lR := kR.lt))
      refine bodyPost_ret (v := .tuple #[.agg (stC h' s'), .bool true]) (by simp [*, results, Tryz.results32, go_sem]) rfl ⟨h', rfl, OB.wr7 (StA_good hC) q1 (i := 3) rfl (.int .i64 s'.b) (.int .i64 s'.e) (.int .i64 s'.n) (.slice h'.u s'.us.length h'.uc) (.slice h'.s s'.ss.length h'.sc) (.slice h'.p s'.ad.length h'.pc) (.slice h'.i s'.sp.length h'.ic)⟩
    | none =>
      go_enter Tryz.func32, Tryz.ntmps32
      go_wp2_with (first
          | (go_at_call 51; (with_reducible refine (HU.out _ (OB.stIn HQ.out HI.out)).mono ?_); rintro r w1 ⟨rfl, hb⟩; have q0 := OB.lay (StA_good hC) HQ.out hb; clear hb; have k0 := OB.at q0 (i := 0) rfl; have e0 := k0.cell; have g0 := k0.froz; have l0 := k0.lt; have k1 := OB.at q0 (i := 1) rfl; have e1 := k1.cell; have g1 := k1.froz; have l1 := k1.lt; have k2 := OB.at q0 (i := 2) rfl; have e2 := k2.cell; have g2 := k2.froz; have l2 := k2.lt; have k3 := OB.at q0 (i := 3) rfl; have e3 := k3.cell; have g3 := k3.froz; have l3 := k3.lt; have HB2 := HB.out _ (q0.imp (OB.into _ _ _ _)))
          | (go_at_call 52; (with_reducible refine HB2.mono ?_); rintro r w2 ⟨h', s', rfl, q1⟩; have kR := OB.at q1 (i := 3) rfl; have eR := kR.cell; have gR := kR.froz; have lR := kR.lt))
      refine bodyPost_ret (v := .tuple #[.agg (stC h' s'), .bool false]) (by simp [*, results, Tryz.results32, go_sem]) rfl ⟨h', s', rfl, OB.wr7 hC q1 (i := 3) rfl (.int .i64 s'.b) (.int .i64 s'.e) (.int .i64 s'.n) (.slice h'.u s'.us.length h'.uc) (.slice h'.s s'.ss.length h'.sc) (.slice h'.p s'.ad.length h'.pc) (.slice h'.i s'.sp.length h'.ic)⟩
end Go.Proofs.YtopkcaflmpjhgaaGreat

namespace Go.Proofs.YtopkcaflmpjhgaaGreat
open Go Go.RowKit

/-- The least that the walks ask of a state's numbers. -/
def St.nums (s : St) : Prop := -9223372036854775808 ≤ s.e ∧ ∀ x ∈ s.us, -9223372036854775808 ≤ x.used ∧ x.used ≤ 9223372036854775807
theorem okNum_le {x : Int} (h : okNum x = true) : 0 ≤ x ∧ x ≤ 1073741823 := by
  unfold okNum at h
  simpa [Bool.and_eq_true, decide_eq_true_eq] using h
theorem cfLife_le {x : Int} (h : cfLife x = true) : 1 ≤ x ∧ x ≤ 65536 := by
  unfold cfLife at h
  simpa [Bool.and_eq_true, decide_eq_true_eq] using h
theorem Cf.may_qua {c : Cf} (h : c.may = true) : 1 ≤ c.qua ∧ c.qua ≤ 65536 := by
  unfold Cf.may at h
  simp only [Bool.and_eq_true] at h
  exact cfLife_le (by simp only [h])
theorem rapplied {w0 w : World} {C : Ass} (hC : C.Good) {c : Cf} {s : St} {h : Sv} (hS : At w0 (StA h s C) w) (hi : StIn w h s) (hn : s.nums) (hc : c.may = true) {e : Ev} (he : e.may = true) :
    Calls Tryz.prog 32 #[.agg (cfC c), .agg (stC h s), .agg (evA e)] w (ApS w0 C (stEv c s e)) := by
  obtain ⟨hr, hp, -⟩ := (Ev.may_iff e).mp he
  obtain ⟨u0, u1, a0, a1, t0, t1, c0, c1, ns, na, nb⟩ := (Ev.rng_iff e).mp hr
  obtain ⟨q0, q1⟩ := Cf.may_qua hc
  have ms := okNum_le ns
  have ma := okNum_le na
  have hk := Ev.kinds hp
  obtain ⟨kind, user, session, address, ea, eb, ec, tick⟩ := e
  simp only at hk u0 u1 a0 a1 t0 t1 ms ma
  unfold stEv
  rcases hk with rfl | rfl | rfl | rfl | rfl | rfl | rfl | rfl | rfl | rfl
  · exact rapplied0 hC hS hi t0 t1 (by omega) q1
  · exact rapplied1 hC hS hi
  · exact rappliedT hC hS hi (by decide)
  · exact rappliedT hC hS hi (by decide)
  · exact rappliedT hC hS hi (by decide)
  · exact rapplied5 hC hS hi ms.1 ms.2
  · exact rapplied6 hC hS hi ma.1 ma.2 hn.2
  · exact rappliedT hC hS hi (by decide)
  · exact rapplied8 hC hS hn.1
  · exact rapplied9 hC hS hi
theorem stSum_le {x y : Int} (h0 : -9223372036854775808 ≤ x) (y0 : 0 ≤ y) (y1 : y ≤ 1073741823) : -9223372036854775808 ≤ stSum x y ∧ stSum x y ≤ 9223372036854775807 := by
  unfold stSum; split <;> omega
theorem stAdd_mem {u x : Us} {us : List Us} (h : x ∈ stAdd u us) : x = u ∨ x ∈ us := by
  induction us with
  | nil => simpa [stAdd] using h
  | cons a r ih =>
    unfold stAdd at h
    by_cases c : u.u < a.u
    · rw [if_pos c] at h
      simpa using h
    · rw [if_neg c] at h
      rcases List.mem_cons.mp h with h | h
      · exact .inr (by simp [h])
      · rcases ih h with h | h
        · exact .inl h
        · exact .inr (by simp [h])
theorem stTurn_used {c : Cf} {x y : Us} {e : Ev} (h : stTurn c x e = some y) : y.used = x.used := by
  unfold stTurn at h
  repeat' split at h
  all_goals (first | cases h | skip)
  all_goals rfl
theorem nums_set {us : List Us} (h : ∀ x ∈ us, -9223372036854775808 ≤ x.used ∧ x.used ≤ 9223372036854775807) {k : Nat} {y : Us} (hy : -9223372036854775808 ≤ y.used ∧ y.used ≤ 9223372036854775807) : ∀ x ∈ us.set k y, -9223372036854775808 ≤ x.used ∧ x.used ≤ 9223372036854775807 := by
  intro x hx
  rcases List.mem_or_eq_of_mem_set hx with hx | rfl
  · exact h x hx
  · exact hy
theorem stEv_nums {c : Cf} {s s' : St} {e : Ev} (hn : s.nums) (he : e.may = true) (h : stEv c s e = some s') : s'.nums := by
  obtain ⟨hr, hp, -⟩ := (Ev.may_iff e).mp he
  obtain ⟨u0, u1, a0, a1, t0, t1, c0, c1, ns, na, nb⟩ := (Ev.rng_iff e).mp hr
  have na := okNum_le na
  obtain ⟨n1, n2⟩ := hn
  have get : ∀ j, -9223372036854775808 ≤ (s.us.getD j Us.none).used ∧ (s.us.getD j Us.none).used ≤ 9223372036854775807 := by
    intro j
    by_cases hj : j < s.us.length
    · rw [List.getD, List.getElem?_eq_getElem hj]; exact n2 _ (List.getElem_mem _)
    · rw [List.getD, List.getElem?_eq_none (by omega)]; exact ⟨by decide, by decide⟩
  unfold stEv at h
  by_cases k0 : e.kind = 0
  · rw [if_pos k0] at h
    split at h
    · cases hR : stFreeAll (e.tick + c.qua) s.ss s.ad with
      | none => rw [hR] at h; cases h
      | some ad => rw [hR] at h; cases h; exact ⟨n1, n2⟩
    · cases h
  rw [if_neg k0] at h
  by_cases k5 : e.kind = 5
  · rw [if_pos k5] at h
    split at h
    · cases h; exact ⟨n1, n2⟩
    · cases h
  rw [if_neg k5] at h
  by_cases k6 : e.kind = 6
  · rw [if_pos k6] at h
    cases hx : seAt s.ss e.session with
    | none => rw [hx] at h; cases h
    | some k =>
      rw [hx] at h
      dsimp only at h
      split at h
      · cases h
        refine ⟨n1, ?_⟩
        show ∀ x ∈ (match usAt s.us (s.ss.getD k .none).u with | some j => s.us.set j { s.us.getD j .none with used := stSum (s.us.getD j .none).used e.a } | none => s.us), _
        cases hj : usAt s.us (s.ss.getD k Se.none).u with
        | none => exact n2
        | some j => exact nums_set n2 (stSum_le (get j).1 na.1 na.2)
      · cases h
  rw [if_neg k6] at h
  by_cases k8 : e.kind = 8
  · rw [if_pos k8] at h
    split at h
    · cases h; exact ⟨by show _ ≤ s.e + 1; omega, n2⟩
    · cases h
  rw [if_neg k8] at h
  by_cases k9 : e.kind = 9
  · rw [if_pos k9] at h
    split at h
    · cases h
    · cases h; exact ⟨n1, n2⟩
  rw [if_neg k9] at h
  by_cases k1 : e.kind = 1
  · rw [if_pos k1] at h
    split at h
    · cases h
    · cases h
      refine ⟨n1, fun x hx => ?_⟩
      rcases stAdd_mem hx with rfl | hx
      · show -9223372036854775808 ≤ (0 : Int) ∧ (0 : Int) ≤ 9223372036854775807
        omega
      · exact n2 x hx
  rw [if_neg k1] at h
  cases hu : usAt s.us e.user with
  | none => rw [hu] at h; cases h
  | some k =>
    rw [hu] at h
    dsimp only at h
    cases ht : stTurn c (s.us.getD k .none) e with
    | none => rw [ht] at h; cases h
    | some y =>
      rw [ht] at h
      cases h
      exact ⟨n1, nums_set n2 (by rw [stTurn_used ht]; exact get k)⟩
end Go.Proofs.YtopkcaflmpjhgaaGreat

namespace Go.Proofs.YtopkcaflmpjhgaaGreat
open Go

/-- Users that are not there yet, of those that may be. -/
def uFree (us : List Us) : Nat := ((List.range 8).filter fun (i : Nat) => (usAt us (i : Int)).isNone).length
theorem uFree_le (us : List Us) : uFree us ≤ 8 := Nat.le_trans (List.length_filter_le ..) (by simp)
theorem usAt_none {us : List Us} {u : Int} : usAt us u = none ↔ ∀ x ∈ us, x.u ≠ u := by
  unfold usAt
  have key : ∀ (l : List Us) (i : Nat), ixP (fun x => decide (x.u = u)) l i = none ↔ ∀ x ∈ l, x.u ≠ u := by
    intro l
    induction l with
    | nil => intro i; simp [ixP]
    | cons a r ih =>
      intro i
      simp only [ixP]
      by_cases c : a.u = u
      · simp [c]
      · simp [c, ih]
  exact key us 0
theorem uFree_ids {us vs : List Us} (h : vs.map (·.u) = us.map (·.u)) : uFree vs = uFree us := by
  have : ∀ u : Int, (usAt vs u).isNone = (usAt us u).isNone := by
    intro u
    have e : (usAt vs u = none) ↔ (usAt us u = none) := by
      rw [usAt_none, usAt_none]
      have m : ∀ l : List Us, (∀ x ∈ l, x.u ≠ u) ↔ ∀ y ∈ l.map (·.u), y ≠ u := by intro l; simp
      rw [m, m, h]
    cases h1 : usAt vs u <;> cases h2 : usAt us u <;> simp_all
  unfold uFree
  congr 1
  apply List.filter_congr
  intro i _
  exact this i
theorem uFree_set {us : List Us} {k : Nat} {y : Us} (h : y.u = (us.getD k Us.none).u) : uFree (us.set k y) = uFree us := by
  apply uFree_ids
  rw [List.map_set]
  by_cases hk : k < us.length
  · rw [h]
    apply List.ext_getElem (by simp)
    intro i h1 h2
    simp only [List.getElem_set, List.getElem_map]
    split
    · rename_i e; subst e; simp [List.getD, hk]
    · rfl
  · apply List.ext_getElem (by simp)
    intro i h1 h2
    simp only [List.getElem_set, List.getElem_map]
    split
    · rename_i e; subst e; simp at h1; omega
    · rfl
theorem stAdd_ids (u : Us) (us : List Us) (x : Us) : x ∈ stAdd u us ↔ x = u ∨ x ∈ us := by
  induction us with
  | nil => simp [stAdd]
  | cons a r ih =>
    unfold stAdd
    by_cases c : u.u < a.u
    · rw [if_pos c]; simp
    · rw [if_neg c]; simp only [List.mem_cons, ih]; constructor <;> rintro (h | h | h) <;> simp [h]
theorem uFree_add {us : List Us} {u : Us} (h : usAt us u.u = none) (h0 : 0 ≤ u.u) (h7 : u.u ≤ 7) : uFree (stAdd u us) + 1 ≤ uFree us := by
  obtain ⟨m, hm⟩ : ∃ m : Nat, u.u = (m : Int) := ⟨u.u.toNat, by omega⟩
  have hm8 : m < 8 := by omega
  unfold uFree
  have hle : ∀ i : Nat, (usAt (stAdd u us) (i : Int)).isNone = ((usAt us (i : Int)).isNone && decide (i ≠ m)) := by
    intro i
    have e : (usAt (stAdd u us) (i : Int) = none) ↔ (usAt us (i : Int) = none ∧ i ≠ m) := by
      rw [usAt_none, usAt_none]
      constructor
      · intro q
        refine ⟨fun x hx => q x ((stAdd_ids u us x).2 (.inr hx)), fun c => q u ((stAdd_ids u us u).2 (.inl rfl)) (by rw [hm, c])⟩
      · rintro ⟨q1, q2⟩ x hx
        rcases (stAdd_ids u us x).1 hx with rfl | hx
        · rw [hm]; intro c; exact q2 (by omega)
        · exact q1 x hx
    by_cases c : usAt us (i : Int) = none ∧ i ≠ m
    · rw [e.2 c, c.1]; simp [c.2]
    · have c' := mt e.1 c
      cases h1 : usAt (stAdd u us) (i : Int) with
      | none => exact absurd h1 c'
      | some j =>
        cases h2 : usAt us (i : Int) with
        | none =>
          have : i = m := by
            rcases Nat.decEq i m with h3 | h3
            · exact absurd ⟨h2, h3⟩ c
            · exact h3
          simp [this]
        | some k => simp
  have hf : (List.range 8).filter (fun (i : Nat) => (usAt (stAdd u us) (i : Int)).isNone) = ((List.range 8).filter fun (i : Nat) => (usAt us (i : Int)).isNone).filter (fun i => decide (i ≠ m)) := by
    rw [List.filter_filter]
    apply List.filter_congr
    intro i _
    rw [hle i, Bool.and_comm]
  rw [hf]
  have hmem : m ∈ (List.range 8).filter fun (i : Nat) => (usAt us (i : Int)).isNone := by
    rw [List.mem_filter]
    exact ⟨by simp; omega, by rw [← hm, h]; rfl⟩
  have key : ∀ (l : List Nat), m ∈ l → (l.filter fun i => decide (i ≠ m)).length + 1 ≤ l.length := by
    intro l
    induction l with
    | nil => intro h; cases h
    | cons a r ih =>
      intro h
      by_cases c : a = m
      · subst c
        rw [List.filter_cons_of_neg (by simp)]
        have := List.length_filter_le (fun i => decide (i ≠ a)) r
        simp only [List.length_cons]
        omega
      · rw [List.filter_cons_of_pos (by simpa using c)]
        have := ih (by rcases List.mem_cons.1 h with e | e; exact absurd e.symm c; exact e)
        simp only [List.length_cons]
        omega
  exact key _ hmem
/-- A state that has room for k events more. -/
structure St.sm (x : St) (k : Nat) : Prop where
  u : x.us.length + uFree x.us ≤ 1954687338263
  s : x.ss.length ≤ 4398046511099
  a : x.ad.length ≤ 5864062014800
  i : x.sp.length + k ≤ 17592186044411
  nums : x.nums
  w : ∀ y ∈ x.sp, -9223372036854775808 ≤ y ∧ y ≤ 9223372036854775807
theorem St.sm.le {s : St} {k m : Nat} (h : s.sm k) (hm : m ≤ k) : s.sm m := ⟨h.u, h.s, h.a, Nat.le_trans (by omega) h.i, h.nums, h.w⟩
theorem stFreeAll_len {t : Int} {ss : List Se} {ad ad' : List Pa} (h : stFreeAll t ss ad = some ad') : ad'.length = ad.length := by
  induction ss generalizing ad with
  | nil => simp only [stFreeAll, Option.some.injEq] at h; rw [h]
  | cons x r ih =>
    simp only [stFreeAll] at h
    split at h
    · have := ih h
      rwa [List.length_set] at this
    · cases h
theorem stTurn_u {c : Cf} {x y : Us} {e : Ev} (h : stTurn c x e = some y) : y.u = x.u := by
  unfold stTurn at h
  repeat' split at h
  all_goals (first | cases h | skip)
  all_goals rfl
/-- An event that may be, upon a state that has room: what its rows' lengths come to. -/
theorem stEv_len {c : Cf} {s t : St} {e : Ev} (hc : c.may = true) (he : e.may = true) (h : stEv c s e = some t) : t.us.length + uFree t.us ≤ s.us.length + uFree s.us ∧ (t.ss.length ≤ s.ss.length ∨ t.ss.length ≤ 8) ∧ t.ad.length = s.ad.length ∧ t.sp.length ≤ s.sp.length + 1 := by
  obtain ⟨hr, hp, -⟩ := (Ev.may_iff e).mp he
  obtain ⟨u0, u1, a0, a1, t0, t1, c0, c1, ns, na, nb⟩ := (Ev.rng_iff e).mp hr
  unfold stEv at h
  by_cases k0 : e.kind = 0
  · rw [if_pos k0] at h
    split at h
    · cases hR : stFreeAll (e.tick + c.qua) s.ss s.ad with
      | none => rw [hR] at h; cases h
      | some ad => rw [hR] at h; cases h; exact ⟨Nat.le_refl _, .inr (by simp), stFreeAll_len hR, Nat.le_succ _⟩
    · cases h
  rw [if_neg k0] at h
  by_cases k5 : e.kind = 5
  · rw [if_pos k5] at h
    split at h
    · rename_i q
      have hs : c.ses ≤ 8 := by
        unfold Cf.may at hc
        simp only [Bool.and_eq_true, decide_eq_true_eq] at hc
        exact hc.1.1.1.1.1.1.1.1.1.1.1.1.2
      cases h
      refine ⟨Nat.le_refl _, .inr ?_, by simp, Nat.le_succ _⟩
      have := q.2.2.1
      simp only [List.length_append, List.length_cons, List.length_nil]
      omega
    · cases h
  rw [if_neg k5] at h
  by_cases k6 : e.kind = 6
  · rw [if_pos k6] at h
    cases hx : seAt s.ss e.session with
    | none => rw [hx] at h; cases h
    | some k =>
      rw [hx] at h
      dsimp only at h
      split at h
      · cases h
        refine ⟨?_, .inl (by simp only [List.length_append, List.length_take, List.length_drop]; omega), by simp, Nat.le_succ _⟩
        show (match usAt s.us (s.ss.getD k .none).u with | some j => s.us.set j { s.us.getD j .none with used := stSum (s.us.getD j .none).used e.a } | none => s.us).length + uFree (match usAt s.us (s.ss.getD k .none).u with | some j => s.us.set j { s.us.getD j .none with used := stSum (s.us.getD j .none).used e.a } | none => s.us) ≤ _
        cases hj : usAt s.us (s.ss.getD k Se.none).u with
        | none => exact Nat.le_refl _
        | some j => dsimp only; rw [List.length_set, uFree_set (y := { s.us.getD j Us.none with used := stSum (s.us.getD j Us.none).used e.a }) rfl]; exact Nat.le_refl _
      · cases h
  rw [if_neg k6] at h
  by_cases k8 : e.kind = 8
  · rw [if_pos k8] at h
    split at h
    · cases h; exact ⟨Nat.le_refl _, .inl (Nat.le_refl _), rfl, Nat.le_succ _⟩
    · cases h
  rw [if_neg k8] at h
  by_cases k9 : e.kind = 9
  · rw [if_pos k9] at h
    split at h
    · cases h
    · cases h; exact ⟨Nat.le_refl _, .inl (Nat.le_refl _), rfl, by simp⟩
  rw [if_neg k9] at h
  by_cases k1 : e.kind = 1
  · rw [if_pos k1] at h
    split at h
    · cases h
    · rename_i q
      have q' : usAt s.us e.user = none := by simpa using q
      cases h
      refine ⟨?_, .inl (Nat.le_refl _), rfl, Nat.le_succ _⟩
      have := uFree_add (u := ⟨e.user, e.a, e.b, e.c, 0, 0, 0, 0, 0⟩) q' u0 u1
      show (stAdd _ s.us).length + uFree (stAdd _ s.us) ≤ _
      rw [stAdd_len]
      omega
  rw [if_neg k1] at h
  cases hu : usAt s.us e.user with
  | none => rw [hu] at h; cases h
  | some k =>
    rw [hu] at h
    dsimp only at h
    cases ht : stTurn c (s.us.getD k .none) e with
    | none => rw [ht] at h; cases h
    | some y =>
      rw [ht] at h
      cases h
      refine ⟨?_, .inl (Nat.le_refl _), rfl, Nat.le_succ _⟩
      show (s.us.set k y).length + uFree (s.us.set k y) ≤ _
      rw [List.length_set, uFree_set (stTurn_u ht)]
      exact Nat.le_refl _
/-- What is spent are numbers. -/
theorem stEv_w {c : Cf} {s t : St} {e : Ev} (h : ∀ y ∈ s.sp, -9223372036854775808 ≤ y ∧ y ≤ 9223372036854775807) (he : e.may = true) (hE : stEv c s e = some t) : ∀ y ∈ t.sp, -9223372036854775808 ≤ y ∧ y ≤ 9223372036854775807 := by
  have hes : -9223372036854775808 ≤ e.session ∧ e.session ≤ 9223372036854775807 := by
    obtain ⟨hr, -, -⟩ := (Ev.may_iff e).mp he
    obtain ⟨-, -, -, -, -, -, -, -, ns, -, -⟩ := (Ev.rng_iff e).mp hr
    rw [okNum_iff] at ns
    omega
  have key : t.sp = s.sp ∨ t.sp = s.sp ++ [e.session] := by
    unfold stEv at hE
    repeat' split at hE
    all_goals (first | cases hE | skip)
    all_goals (first | exact .inl rfl | exact .inr rfl | skip)
    all_goals
      rw [Option.map_eq_some_iff] at hE
      obtain ⟨_, -, rfl⟩ := hE
      exact .inl rfl
  rcases key with k | k <;> rw [k]
  · exact h
  · intro y hy
    rcases List.mem_append.1 hy with d | d
    · exact h y d
    · obtain rfl : y = e.session := by simpa using d
      exact hes
theorem stEv_sm {c : Cf} {s t : St} {e : Ev} {k : Nat} (h : s.sm (k + 1)) (hc : c.may = true) (he : e.may = true) (hE : stEv c s e = some t) : t.sm k := by
  obtain ⟨h1, h2, h3, h4⟩ := stEv_len hc he hE
  exact ⟨Nat.le_trans h1 h.u, by rcases h2 with c | c; exact Nat.le_trans c h.s; omega, by rw [h3]; exact h.a, by have := h.i; omega, stEv_nums h.nums he hE, stEv_w h.w he hE⟩
theorem stAS_yes {c : Cf} {s : St} {e : Ev} (h : stAE c s e = 0) : c.may = true ∧ e.may = true ∧ (s.ad.length : Int) = c.adr ∧ stEv c s e = some (stAS c s e) := by
  unfold stAE at h
  cases hk : stOk c s e with
  | false => rw [hk] at h; cases h
  | true =>
    rw [hk] at h
    simp only [if_true] at h
    have hk' := hk
    unfold stOk at hk'
    simp only [Bool.and_eq_true, decide_eq_true_eq] at hk'
    refine ⟨hk'.1.1, hk'.1.2, hk'.2, ?_⟩
    unfold stAS
    rw [hk]
    simp only [if_true]
    cases hE : stEv c s e with
    | none => rw [hE] at h; cases h
    | some t => rfl
theorem stAS_no {c : Cf} {s : St} {e : Ev} (h : ¬ stAE c s e = 0) : stAS c s e = .none := by
  unfold stAE at h
  unfold stAS
  cases hk : stOk c s e with
  | false => rfl
  | true =>
    rw [hk] at h
    simp only [if_true] at h ⊢
    cases hE : stEv c s e with
    | none => rfl
    | some t => rw [hE] at h; simp at h
theorem stAS_sm {c : Cf} {s : St} {e : Ev} {k : Nat} (h : s.sm (k + 1)) (hE : stAE c s e = 0) : (stAS c s e).sm k := by
  obtain ⟨h1, h2, -, h4⟩ := stAS_yes hE
  exact stEv_sm h h1 h2 h4
theorem St.none_sm {k : Nat} (hk : k ≤ 17592186044411) : St.none.sm k := ⟨by have := uFree_le []; show 0 + uFree [] ≤ _; omega, by decide, by decide, by show 0 + k ≤ _; omega, ⟨by decide, by simp [St.none]⟩, by simp [St.none]⟩
theorem snS_sm {n : Int} {k : Nat} (hk : k ≤ 17592186044411) : (snS n).sm k := by
  have h := St.none_sm hk
  refine ⟨h.u, h.s, ?_, h.i, h.nums, h.w⟩
  show (pnL n).length ≤ _
  unfold pnL
  split
  · rename_i q
    unfold pnOk at q
    simp only [Bool.and_eq_true, decide_eq_true_eq] at q
    rw [List.length_replicate]
    omega
  · simp
theorem stAS_sm' {c : Cf} {s : St} {e : Ev} {k : Nat} (h : s.sm (k + 1)) : (stAS c s e).sm k := by
  by_cases hE : stAE c s e = 0
  · exact stAS_sm h hE
  · rw [stAS_no hE]; exact St.none_sm (by have := h.i; omega)
theorem stRun_sm {c : Cf} {es : List Ev} {s : St} {k : Nat} (h : s.sm (es.length + k)) (hk : k ≤ 17592186044411) : (stRun c es s).2.sm k := by
  induction es generalizing s with
  | nil => exact h.le (by simp)
  | cons e r ih =>
    unfold stRun
    by_cases hE : stAE c s e = 0
    · rw [if_pos hE]
      exact ih (stAS_sm (h.le (by simp only [List.length_cons]; omega)) hE)
    · rw [if_neg hE]; exact St.none_sm hk
theorem saS_sm {c : Cf} {es : List Ev} {k : Nat} (hk : es.length + k ≤ 17592186044411) : (saS c es).sm k := by
  unfold saS
  split
  · exact stRun_sm (snS_sm hk) (by omega)
  · exact St.none_sm (by omega)
end Go.Proofs.YtopkcaflmpjhgaaGreat

namespace Go.Proofs.YtopkcaflmpjhgaaGreat
open Go

theorem stRun_none {c : Cf} {es : List Ev} {s : St} (h : (stRun c es s).1 ≠ 0) : (stRun c es s).2 = .none := by
  induction es generalizing s with
  | nil => exact absurd rfl h
  | cons e r ih =>
    unfold stRun at h ⊢
    by_cases hE : stAE c s e = 0
    · rw [if_pos hE] at h ⊢; exact ih h
    · rw [if_neg hE]
theorem stRun_app {c : Cf} {a b : List Ev} {s : St} : stRun c (a ++ b) s = if (stRun c a s).1 = 0 then stRun c b (stRun c a s).2 else stRun c a s := by
  induction a generalizing s with
  | nil => simp [stRun]
  | cons e r ih =>
    by_cases hE : stAE c s e = 0
    · simp [stRun, hE, ih]
    · simp [stRun, hE]
/-- What a beginning refuses, all refuse. -/
theorem sa_bad {c : Cf} {es : List Ev} {k : Nat} (h : saE c (es.take k) ≠ 0) : saE c es = saE c (es.take k) ∧ saS c es = .none ∧ saS c (es.take k) = .none := by
  unfold saE saS at *
  cases ho : pnOk c.adr with
  | false => exact ⟨rfl, rfl, rfl⟩
  | true =>
    rw [ho] at h
    simp only [if_true] at h ⊢
    have e : stRun c es (snS c.adr) = stRun c (es.take k) (snS c.adr) := by
      have x := stRun_app (c := c) (a := es.take k) (b := es.drop k) (s := snS c.adr)
      rw [List.take_append_drop, if_neg h] at x
      exact x
    rw [e]
    exact ⟨rfl, stRun_none h, stRun_none h⟩
/-- One event more. -/
theorem sa_next {c : Cf} {es : List Ev} {k : Nat} (hk : k < es.length) {e : Ev} (he : es.getD k Ev.zero = e) (h : saE c (es.take k) = 0) : saE c (es.take (k + 1)) = stAE c (saS c (es.take k)) e ∧ saS c (es.take (k + 1)) = stAS c (saS c (es.take k)) e := by
  have hx : es.take (k + 1) = es.take k ++ [e] := by
    rw [List.take_succ_eq_append_getElem hk]
    congr 2
    rw [← he]; simp [List.getD, hk]
  unfold saE saS at *
  cases ho : pnOk c.adr with
  | false => rw [ho] at h; cases h
  | true =>
    rw [ho] at h
    simp only [if_true] at h ⊢
    rw [hx, stRun_app, if_pos h]
    simp only [stRun]
    by_cases hE : stAE c (stRun c (es.take k) (snS c.adr)).2 e = 0
    · rw [if_pos hE]; exact ⟨hE.symm, rfl⟩
    · rw [if_neg hE]; exact ⟨rfl, (stAS_no hE).symm⟩
theorem stAE_range {c : Cf} {s : St} {e : Ev} : stAE c s e = 0 ∨ stAE c s e = 2000 ∨ stAE c s e = 2001 := by
  unfold stAE
  split
  · split
    · exact .inl rfl
    · exact .inr (.inr rfl)
  · exact .inr (.inl rfl)
end Go.Proofs.YtopkcaflmpjhgaaGreat

