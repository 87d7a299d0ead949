/- Put together: Jp3, Jp4, Jp6, Jp5, Jp7, Jp8, Jp9. Conditions: each theorem's own. -/
import Derived.Test.YtbfpfmidjdonjaaGreatDoorBja
import Derived.LoopN
import Derived.Test.YtbfpfmidjdonjaaGreatDoorBrg
import Derived.Lib.SliceRun
namespace Go.Proofs.YtbfpfmidjdonjaaGreatDoor
open Go Go.RowKit
theorem getD_dropJ (A : List ByteArray) (k i : Nat) : (A.drop k).getD i ⟨#[]⟩ = A.getD (k + i) ⟨#[]⟩ := by simp [List.getD, List.getElem?_drop]
section
variable {F : List Nat} {w W : World} {p pb pd : Nat} {most : Int} {ts : List ByteArray} {d : Dk} {m : Int} {J : Jn} {v : Value}
theorem JX.bookR {f : FuncId} {args : Array Value} {u : Ending} (hd : ReadsG Tryz.prog (bookA pb most ts) f args u) (h : Becomes F (JX p pb pd most ts d m J v) w W) (hg : Gd w) (hF : 0 ∉ F) : Calls Tryz.prog f args W fun e w' => e = u ∧ Below W.heap.size W w' := by
  have hgW := hg.tn h.tn hF
  obtain ⟨_, ⟨_, _, _, _, ⟨_, _, _, _, ⟨F1, _, _, hb, _⟩, _⟩, _⟩, _⟩ := h
  exact hd W F1 hb hgW
theorem jtake (h : Becomes F (JX p pb pd most ts d m J v) w W) (hg : Gd w) (hF : 0 ∉ F) (s : ByteArray) (hs : s.size ≤ 9223372036854770000) (hn : J.all.length ≤ 1000) :
    (rgOk ts s ((J.all.length : Int) + 1) J.last = none → Calls Tryz.prog 98 #[.pointer (some ⟨p, 0, none⟩), .string s] W fun e w' => e = .returned (.bool false) ∧ Becomes F (JX p pb pd most ts d m J v) w w') ∧
    ∀ x, rgOk ts s ((J.all.length : Int) + 1) J.last = some x → Calls Tryz.prog 98 #[.pointer (some ⟨p, 0, none⟩), .string s] W fun e w' => e = .returned (.bool true) ∧ Becomes F (JA p pb pd most ts d m ⟨J.boot, x.2, J.all ++ [x.1.ev], J.over⟩) w w' := by
  have hG := fun W (h : Becomes F (JX p pb pd most ts d m J v) w W) => JX.bookR (dpgetR pb most ts s ((J.all.length : Int) + 1) J.last hs) h hg hF
  refine ⟨fun hx => ?_, fun x hx => ?_⟩
  · obtain ⟨e1, _, _⟩ := rgOk_no hx
    obtain ⟨R, hR⟩ : ∃ R, rgR ts s ((J.all.length : Int) + 1) J.last = R := ⟨_, rfl⟩
    rw [hR] at hG
    obtain ⟨x1, x2, x3, ⟨k, u, q, a, x, y, z, t⟩⟩ := R
    exact jtake_no h s hn _ _ _ _ _ _ _ _ _ _ _ _ _ e1 hG
  · obtain ⟨e1, e2, e3⟩ := rgOk_yes hx
    rw [e1, e2, e3] at hG
    obtain ⟨⟨x1, x2, x3, ⟨k, u, q, a, x, y, z, t⟩⟩, own⟩ := x
    exact jtake_yes h s hn _ _ _ _ _ _ _ _ _ _ _ _ _ rfl hG
theorem er_fault {w : World} {v : Value} {n : Int} (h : Er w v n) (hn : n ≠ 0) : ∃ b, v = .iface 178 (.pointer (some ⟨b, 0, none⟩)) := by
  rcases h with ⟨h0, _⟩ | ⟨_, b, h, _⟩
  · exact absurd h0 hn
  · exact ⟨b, h⟩
set_option maxHeartbeats 2000000 in
theorem jmark_no (h : Becomes F (JX p pb pd most ts d m J v) w W) (hg : Gd w) (hF : 0 ∉ F) (ho : d.Ok) (hd : d.down = false) (hk3 : 3 ≤ d.kept.length) (hl : ts.length ≤ 1000000) (hE : suE most ts (joB ts d) ≠ 0) :
    Calls Tryz.prog 75 #[.pointer (some ⟨p, 0, none⟩)] W fun e w' => ∃ er, e = .returned er ∧ Er w' er 1000 ∧ Becomes F (JX p pb pd most (suT most ts (joB ts d)) d m J v) w w' := by
  have N0 := jnext h hg hF ho hd hk3
  have P0 := fun W (h : Becomes F (JX p pb pd most ts d m J v) w W) => JX.book (dsput pb most ts (joB ts d) hl) h
  rw [(su_no hE).1, (su_no hE).2] at P0
  have HC := Lib.hid (fun W (h : Becomes F (JX p pb pd most ts d m J v) w W) => (JX.cells h).1)
  have N0 := Lib.hid N0
  have P0 := Lib.hid P0
  generalize joB ts d = B at *
  generalize joP ts d = P at *
  generalize suT most ts B = T at *
  clear h hg ho hd hk3 hl hE
  go_enter Tryz.func75, Tryz.ntmps75
  go_wp2_with (first
    | (go_at_call 96; (with_reducible refine N0.out.mono ?_); rintro e w1 ⟨rfl, h1⟩; have k0 := HC.out _ h1)
    | (go_at_call 97; (with_reducible refine (P0.out _ h1).mono ?_); rintro e w2 ⟨rfl, h2⟩)
    | (go_at_call 86; (with_reducible refine (fltof _ _ _ _).mono ?_); rintro e w3 ⟨er, rfl, hE, hb⟩; obtain ⟨b, rfl⟩ := er_fault hE (by decide)))
  go_ret
  exact ⟨_, rfl, hE, JX.lay h2 hb⟩
set_option maxHeartbeats 2000000 in
theorem jmark_yes (h : Becomes F (JX p pb pd most ts d m J v) w W) (hg : Gd w) (hF : 0 ∉ F) (ho : d.Ok) (hd : d.down = false) (hk3 : 3 ≤ d.kept.length) (hl : ts.length ≤ 1000000) (hn : d.waits.length ≤ 1000000) (hE : suE most ts (joB ts d) = 0) :
    Calls Tryz.prog 75 #[.pointer (some ⟨p, 0, none⟩)] W fun e w' => e = .returned .nilIface ∧ Becomes F (JX p pb pd most (suT most ts (joB ts d)) (d.wr (joP ts d) (suS most ts (joB ts d))).fl m ⟨joB ts d, J.last, J.all, J.over⟩ v) w w' := by
  have N0 := jnext h hg hF ho hd hk3
  have P0 := fun W (h : Becomes F (JX p pb pd most ts d m J v) w W) => JX.book (dsput pb most ts (joB ts d) hl) h
  rw [hE] at P0
  have hP : joP ts d = 0 ∨ joP ts d = 1 := by
    rcases pk_cases ts (d.rdS 0) (d.rdS 1) with ⟨_, _, c⟩ | ⟨_, _, _, c⟩
    · exact .inl c
    · exact c
  have hS := su_size hE
  generalize joB ts d = B at *
  generalize joP ts d = P at *
  generalize suT most ts B = T at *
  generalize suS most ts B = S at *
  have hw : d.wrE P S = 0 := by
    have hh : d.has P = true := (Dk.has_iff _ _).2 ⟨by omega, by omega⟩
    unfold Dk.wrE
    rw [hd, hh]
    simp [hS]
  have hw2 : (d.wr P S).down = false := by
    unfold Dk.wr
    rw [hd]
    split
    · exact hd
    · split
      · rfl
      · exact hd
  have hf : (d.wr P S).flE = 0 := by unfold Dk.flE; rw [hw2]; rfl
  have W0 := fun W (h : Becomes F (JX p pb pd most T d m J v) w W) => jput h hn P S
  rw [hw] at W0
  have F0 := fun W (h : Becomes F (JX p pb pd most T (d.wr P S) m ⟨B, J.last, J.all, J.over⟩ v) w W) => jflush h
  rw [hf] at F0
  generalize (d.wr P S).fl = D2 at *
  generalize d.wr P S = D1 at *
  have HC := Lib.hid (fun W (h : Becomes F (JX p pb pd most ts d m J v) w W) => (JX.cells h).1)
  have N0 := Lib.hid N0
  have P0 := Lib.hid P0
  have W0 := Lib.hid W0
  have F0 := Lib.hid F0
  clear h hg ho hd hk3 hl hE hw hw2 hf hS hP hn
  go_enter Tryz.func75, Tryz.ntmps75
  go_wp2_with (first
    | (go_at_call 96; (with_reducible refine N0.out.mono ?_); rintro e w1 ⟨rfl, h1⟩; have k0 := HC.out _ h1)
    | (go_at_call 97; (with_reducible refine (P0.out _ h1).mono ?_); rintro e w2 ⟨rfl, h2⟩)
    | (go_at_call 86; (with_reducible refine (fltof _ _ _ _).mono ?_); rintro e w3 ⟨er, rfl, hE, hb⟩; obtain rfl := er_nil hE; replace h2 := JX.lay h2 hb; clear hE hb)
    | (go_at_call 73; (with_reducible refine (W0.out _ h2).mono ?_); rintro e w4 ⟨er, rfl, hE, h4⟩; obtain rfl := er_nil hE; clear hE; have k2 := (JX.cells h4).2.2.1; have f2 := JX.frz h4 2; have h5 : Becomes F (JX p pb pd most T D1 m ⟨B, J.last, J.all, J.over⟩ v) w _ := JY.set h4 2 (.int .i64 B))
    | (go_at_call 68; (with_reducible refine (F0.out _ h5).mono ?_); rintro e w6 ⟨er, rfl, hE, h6⟩; obtain rfl := er_nil hE))
  go_ret
  exact ⟨rfl, h6⟩
end
def Part (ts L : List ByteArray) (n : Nat) (mo : Bool) (es : List Ev) (l : Int) : Prop :=
  es.length ≤ n ∧ (mo = true → es.length = n ∧ jnGo ts L 0 0 = (es ++ (jnGo ts (L.drop n) n l).1, (jnGo ts (L.drop n) n l).2)) ∧ (mo = false → jnGo ts L 0 0 = (es, l))
theorem Part.start (ts L : List ByteArray) : Part ts L 0 true [] 0 := ⟨Nat.le_refl _, fun _ => ⟨rfl, by simp⟩, fun h => by cases h⟩
theorem Part.skip {ts L : List ByteArray} {n : Nat} {es : List Ev} {l : Int} (h : Part ts L n false es l) : Part ts L (n + 1) false es l := ⟨by have := h.1; omega, (fun c => by cases c), h.2.2⟩
theorem drop_getD {L : List ByteArray} {n : Nat} (h : n < L.length) : L.drop n = L.getD n ⟨#[]⟩ :: L.drop (n + 1) := by rw [List.drop_eq_getElem_cons h]; simp [List.getD, h]
theorem Part.no {ts L : List ByteArray} {n : Nat} {es : List Ev} {l : Int} (h : Part ts L n true es l) (hn : n < L.length) (hx : rgOk ts (L.getD n ⟨#[]⟩) ((n : Int) + 1) l = none) : Part ts L (n + 1) false es l := by
  obtain ⟨h1, h2⟩ := h.2.1 rfl
  refine ⟨by omega, (fun c => by cases c), fun _ => ?_⟩
  rw [h2, drop_getD hn]
  unfold jnGo
  rw [hx]
  simp
theorem Part.yes {ts L : List ByteArray} {n : Nat} {es : List Ev} {l : Int} (h : Part ts L n true es l) (hn : n < L.length) {x : Rc × Int} (hx : rgOk ts (L.getD n ⟨#[]⟩) ((n : Int) + 1) l = some x) : Part ts L (n + 1) true (es ++ [x.1.ev]) x.2 := by
  obtain ⟨h1, h2⟩ := h.2.1 rfl
  refine ⟨by simp; omega, (fun _ => ⟨by simp; omega, ?_⟩), fun c => by cases c⟩
  rw [h2, drop_getD hn]
  conv => lhs; unfold jnGo
  rw [hx]
  simp
theorem Part.done {ts L : List ByteArray} {n : Nat} {mo : Bool} {es : List Ev} {l : Int} (h : Part ts L n mo es l) (hn : L.length ≤ n) : jnGo ts L 0 0 = (es, l) := by
  cases mo with
  | false => exact h.2.2 rfl
  | true =>
    rw [(h.2.1 rfl).2, List.drop_eq_nil_of_le hn]
    simp [jnGo]
section
variable {F : List Nat} {w W : World} {p pb pd : Nat} {most : Int} {ts : List ByteArray} {d : Dk} {B : Int} {o : Bool}
theorem Dk.rd_end {d : Dk} (hd : d.down = false) {i : Nat} (hi : d.kept.length ≤ i) : d.rdE (i : Int) = 800 := by
  have hh : d.has (i : Int) = false := by
    cases c : d.has (i : Int)
    · rfl
    · have := (Dk.has_iff _ _).1 c; omega
  unfold Dk.rdE
  rw [hd, hh]
  rfl
theorem Dk.rd_see {d : Dk} (hd : d.down = false) {i : Nat} (hi : i < d.kept.length) : d.rdS (i : Int) = d.see.getD i ⟨#[]⟩ := by
  have hh : d.has (i : Int) = true := (Dk.has_iff _ _).2 ⟨by omega, by omega⟩
  unfold Dk.rdS
  rw [hd, hh, Int.toNat_natCast]
  rfl
set_option maxHeartbeats 4000000 in
theorem jload (h : Becomes F (JX p pb pd most ts d 0 ⟨B, 0, [], o⟩ (.slice none 0 0)) w W) (hg : Gd w) (hF : 0 ∉ F) (ho : d.Ok) (hd : d.down = false) (hk : 2 ≤ d.kept.length) :
    Calls Tryz.prog 76 #[.pointer (some ⟨p, 0, none⟩)] W fun e w' => e = .returned .nilIface ∧ Becomes F (JA p pb pd most ts d ((d.kept.length - 2 : Nat) : Int) ⟨B, (jnGo ts (d.see.drop 2) 0 0).2, (jnGo ts (d.see.drop 2) 0 0).1, o⟩) w w' := by
  have hlen : d.see.length = d.kept.length := keepAll_len _ _
  have hmost := ho.most
  have h0 := Becomes.hidv h (fun _ => rfl)
  have HT := Lib.hid (fun W n v' es l (h : Becomes F (JX p pb pd most ts d n ⟨B, l, es, o⟩ v') w W) => jtake h hg hF)
  clear h hg hF
  go_enter Tryz.func76, Tryz.ntmps76
  go_wp2
  go_loopw [3, 4] (fun x y wr => ∃ n : Nat, n + 2 ≤ d.kept.length ∧ y = .int .i64 ((n : Int) + 2) ∧ ∃ mo es l, x = .bool mo ∧ Part ts (d.see.drop 2) n mo es l ∧ Becomes F (JA p pb pd most ts d (n : Int) ⟨B, l, es, o⟩) w wr) (fun _ y _ => d.kept.length + 2 - (intOf y).toNat)
  case atStart => exact ⟨0, hk, rfl, true, [], 0, rfl, Part.start _ _, h0⟩
  case round =>
    clear h0
    obtain ⟨n, hle, rfl, mo, es, l, rfl, hp, hS⟩ := hrel
    obtain ⟨v, hv, hS⟩ := hS.exv
    have R0 := jread hS ((n + 2 : Nat) : Int)
    have hcast : ((n + 2 : Nat) : Int) = (n : Int) + 2 := by omega
    by_cases hlt : n + 2 < d.kept.length
    · obtain ⟨z, e⟩ := Dk.rd_up ho hd hlt
      have hs1 := Dk.rd_see hd hlt
      have hs2 : d.rdS ((n + 2 : Nat) : Int) = (d.see.drop 2).getD n ⟨#[]⟩ := by rw [hs1, getD_dropJ, Nat.add_comm]
      have hnl : n < (d.see.drop 2).length := by rw [List.length_drop]; omega
      rw [e, hs2, hcast] at R0
      rw [hs2] at z
      have hes := hp.1
      have Hset := Lib.hid (fun W (h : Becomes F (JX p pb pd most ts d (n : Int) ⟨B, l, es, o⟩ v) w W) => (show Becomes F (JX p pb pd most ts d ((n : Int) + 1) ⟨B, l, es, o⟩ v) w (W.setCell ⟨p, 3, none⟩ (.int .i64 ((n : Int) + 1))) from JY.set h 3 (.int .i64 ((n : Int) + 1))))
      have R1 := Lib.hid R0
      clear R0 hS e hs1 hs2 hcast
      cases mo with
      | false =>
        have HP := Lib.hid hp.skip
        clear hp z
        go_wp2_with (first
          | (go_at_call 74; (with_reducible refine R1.out.mono ?_); rintro e w1 ⟨er, rfl, hE, h1⟩; obtain rfl := er_nil hE; clear hE; have k3 := (JX.cells h1).2.2.2.1; have f3 := JX.frz h1 3; have h2 := Lib.hid (Hset.out _ h1))
          | (go_at_call 67; (with_reducible refine (is_nil _ _).mono ?_); rintro e w5 ⟨rfl, rfl⟩))
        go_round
        case rel => exact ⟨n + 1, by omega, by go_num, false, es, l, rfl, HP.out, Becomes.hidv h2.out hv⟩
        case measure => simp [intOf]; omega
      | true =>
        obtain ⟨hl1, _⟩ := hp.2.1 rfl
        cases hx : rgOk ts ((d.see.drop 2).getD n ⟨#[]⟩) ((n : Int) + 1) l with
        | none =>
          have HP := Lib.hid (hp.no hnl hx)
          have HK := Lib.hid (fun W (h : Becomes F (JX p pb pd most ts d ((n : Int) + 1) ⟨B, l, es, o⟩ v) w W) => (HT.out _ _ _ _ _ h ((d.see.drop 2).getD n ⟨#[]⟩) (by omega) (by show es.length ≤ 1000; omega)).1 (by show rgOk ts _ ((es.length : Int) + 1) l = none; rw [hl1]; exact hx))
          clear hp z hx hl1
          generalize (d.see.drop 2).getD n ⟨#[]⟩ = S at *
          go_wp2_with (first
            | (go_at_call 74; (with_reducible refine R1.out.mono ?_); rintro e w1 ⟨er, rfl, hE, h1⟩; obtain rfl := er_nil hE; clear hE; have k3 := (JX.cells h1).2.2.2.1; have f3 := JX.frz h1 3; have h2 := Lib.hid (Hset.out _ h1))
            | (go_at_call 67; (with_reducible refine (is_nil _ _).mono ?_); rintro e w5 ⟨rfl, rfl⟩)
            | (go_at_call 98; (with_reducible refine (HK.out _ h2.out).mono ?_); rintro e w6 ⟨rfl, h6⟩))
          go_round
          case rel => exact ⟨n + 1, by omega, by go_num, false, es, l, rfl, HP.out, Becomes.hidv h6 hv⟩
          case measure => simp [intOf]; omega
        | some x =>
          have HP := Lib.hid (hp.yes hnl hx)
          have HK := Lib.hid (fun W (h : Becomes F (JX p pb pd most ts d ((n : Int) + 1) ⟨B, l, es, o⟩ v) w W) => (HT.out _ _ _ _ _ h ((d.see.drop 2).getD n ⟨#[]⟩) (by omega) (by show es.length ≤ 1000; omega)).2 x (by show rgOk ts _ ((es.length : Int) + 1) l = some x; rw [hl1]; exact hx))
          clear hp z hx hl1
          generalize (d.see.drop 2).getD n ⟨#[]⟩ = S at *
          go_wp2_with (first
            | (go_at_call 74; (with_reducible refine R1.out.mono ?_); rintro e w1 ⟨er, rfl, hE, h1⟩; obtain rfl := er_nil hE; clear hE; have k3 := (JX.cells h1).2.2.2.1; have f3 := JX.frz h1 3; have h2 := Lib.hid (Hset.out _ h1))
            | (go_at_call 67; (with_reducible refine (is_nil _ _).mono ?_); rintro e w5 ⟨rfl, rfl⟩)
            | (go_at_call 98; (with_reducible refine (HK.out _ h2.out).mono ?_); rintro e w6 ⟨rfl, h6⟩))
          go_round
          case rel => exact ⟨n + 1, by omega, by go_num, true, es ++ [x.1.ev], x.2, rfl, HP.out, h6⟩
          case measure => simp [intOf]; omega
    · rw [Dk.rd_end hd (by omega), hcast] at R0
      have hdn := hp.done (by rw [List.length_drop]; omega)
      have hnn : d.kept.length - 2 = n := by omega
      have HD := Lib.hid (And.intro hdn hnn)
      clear hnn
      have R1 := Lib.hid R0
      clear R0 hS hdn hcast
      go_wp2_with (first
        | (go_at_call 74; (with_reducible refine R1.out.mono ?_); rintro e w1 ⟨er, rfl, hE, h1⟩)
        | (go_at_call 67; (with_reducible refine (eris hE (by decide)).mono ?_); rintro e w5 ⟨rfl, rfl⟩))
      go_ret
      rw [HD.out.1, HD.out.2]
      exact ⟨rfl, Becomes.hidv h1 hv⟩
end
open Go Go.RowKit
section
variable {F : List Nat} {w W : World} {p pb pd : Nat} {most : Int} {ts : List ByteArray} {d : Dk} {m : Int} {J : Jn} {v : Value}
theorem jstart_bad (h : Becomes F (JX p pb pd most ts d m J v) w W) (hE : d.rdE 2 ≠ 0) : Calls Tryz.prog 56 #[.pointer (some ⟨p, 0, none⟩)] W fun e w' => ∃ er, e = .returned er ∧ Er w' er (d.rdE 2) ∧ Becomes F (JX p pb pd most ts d m J v) w w' := by
  have R0 := Lib.hid (jread h 2)
  have HE := Lib.hid (fun w v h => @er_fault w v _ h hE)
  generalize d.rdE 2 = E at *
  clear h hE
  go_enter Tryz.func56, Tryz.ntmps56
  go_wp2_with (go_at_call 74; (with_reducible refine R0.out.mono ?_); rintro e w1 ⟨er, rfl, hE, h1⟩; obtain ⟨b, rfl⟩ := HE.out _ _ hE)
  go_ret
  exact ⟨_, rfl, hE, h1⟩
theorem jstart_full (h : Becomes F (JX p pb pd most ts d m J v) w W) (hg : Gd w) (hF : 0 ∉ F) (ho : d.Ok) (hd : d.down = false) (hk3 : 3 ≤ d.kept.length) (hl : ts.length ≤ 1000000) (hE : suE most ts (joB ts d) ≠ 0) :
    Calls Tryz.prog 56 #[.pointer (some ⟨p, 0, none⟩)] W fun e w' => ∃ er, e = .returned er ∧ Er w' er 1000 ∧ Becomes F (JX p pb pd most (suT most ts (joB ts d)) d m J v) w w' := by
  have R0 := jread h 2
  have e2 : d.rdE 2 = 0 := (Dk.rd_up ho hd (i := 2) (by omega)).2
  rw [e2] at R0
  clear e2
  have R0 := Lib.hid R0
  have M0 := Lib.hid (fun W (h : Becomes F (JX p pb pd most ts d m J v) w W) => jmark_no h hg hF ho hd hk3 hl hE)
  generalize suT most ts (joB ts d) = T at *
  clear h hg ho hd hk3 hl hE
  go_enter Tryz.func56, Tryz.ntmps56
  go_wp2_with (first
    | (go_at_call 74; (with_reducible refine R0.out.mono ?_); rintro e w1 ⟨er, rfl, hE, h1⟩; obtain rfl := er_nil hE; clear hE)
    | (go_at_call 75; (with_reducible refine (M0.out _ h1).mono ?_); rintro e w2 ⟨er, rfl, hE, h2⟩; obtain ⟨b, rfl⟩ := er_fault hE (by decide)))
  go_ret
  exact ⟨_, rfl, hE, h2⟩
theorem jstart_ok (h : Becomes F (JX p pb pd most ts d 0 ⟨0, 0, [], false⟩ (.slice none 0 0)) w W) (hg : Gd w) (hF : 0 ∉ F) (ho : d.Ok) (hd : d.down = false) (hk3 : 3 ≤ d.kept.length) (hl : ts.length ≤ 1000000) (hn : d.waits.length ≤ 1000000) (hE : suE most ts (joB ts d) = 0) :
    Calls Tryz.prog 56 #[.pointer (some ⟨p, 0, none⟩)] W fun e w' => e = .returned .nilIface ∧ Becomes F (JA p pb pd most (joT most ts d) (joD most ts d) ((d.kept.length - 2 : Nat) : Int) (joJ most ts d)) w w' := by
  have R0 := jread h 2
  have e2 : d.rdE 2 = 0 := (Dk.rd_up ho hd (i := 2) (by omega)).2
  rw [e2] at R0
  clear e2
  have R0 := Lib.hid R0
  have M0 := fun W (h : Becomes F (JX p pb pd most ts d 0 ⟨0, 0, [], false⟩ (.slice none 0 0)) w W) => jmark_yes h hg hF ho hd hk3 hl hn hE
  have eE : joE most ts d = 0 := by unfold joE; rw [hd, if_neg (by decide), if_neg (by omega), if_pos hE]
  have eT : suT most ts (joB ts d) = joT most ts d := by unfold joT; rw [hd, if_neg (by decide), if_neg (by omega)]
  have eD : (d.wr (joP ts d) (suS most ts (joB ts d))).fl = joD most ts d := by unfold joD; rw [if_pos eE]
  rw [eT, eD] at M0
  have hok : (joD most ts d).Ok := by rw [← eD]; exact Dk.ok_fl (Dk.ok_wr ho _ _)
  have hlen : (joD most ts d).kept.length = d.kept.length := by rw [← eD, Dk.len_fl, Dk.len_wr]
  have hup : (joD most ts d).down = false := by
    rw [← eD]
    unfold Dk.fl Dk.wr
    rw [hd]
    split <;> split <;> first | rfl | (split <;> rfl) | simp_all
  have L0 := fun W (h : Becomes F (JX p pb pd most (joT most ts d) (joD most ts d) 0 ⟨joB ts d, 0, [], false⟩ (.slice none 0 0)) w W) => jload h hg hF hok hup (by omega)
  rw [hlen] at L0
  have eJ : (⟨joB ts d, (jnGo (joT most ts d) ((joD most ts d).see.drop 2) 0 0).2, (jnGo (joT most ts d) ((joD most ts d).see.drop 2) 0 0).1, false⟩ : Jn) = joJ most ts d := rfl
  rw [eJ] at L0
  have M0 := Lib.hid M0
  have L0 := Lib.hid L0
  clear h hg ho hd hk3 hl hE eE eT eD hok hlen hup eJ
  generalize joT most ts d = T at *
  generalize joD most ts d = D at *
  generalize joJ most ts d = J at *
  generalize joB ts d = B at *
  go_enter Tryz.func56, Tryz.ntmps56
  go_wp2_with (first
    | (go_at_call 74; (with_reducible refine R0.out.mono ?_); rintro e w1 ⟨er, rfl, hE, h1⟩; obtain rfl := er_nil hE; clear hE)
    | (go_at_call 75; (with_reducible refine (M0.out _ h1).mono ?_); rintro e w2 ⟨rfl, h2⟩)
    | (go_at_call 76; (with_reducible refine (L0.out _ h2).mono ?_); rintro e w3 ⟨rfl, h3⟩))
  go_ret
  exact ⟨rfl, h3⟩
end
abbrev BD (pb pd : Nat) (most : Int) (ts : List ByteArray) (d : Dk) : Ass := (bookA pb most ts).star ((dpA pd d).star emp)
theorem BD_good (pb pd : Nat) (most : Int) (ts : List ByteArray) (d : Dk) : (BD pb pd most ts d).Good := (bookA_good _ _ _).star ((dpA_good _ _).star emp_good)
section
variable {F : List Nat} {w W : World} {pb pd : Nat} {most : Int} {ts : List ByteArray} {d : Dk}
theorem jlaid (h : Becomes F (BD pb pd most ts d) w W) : Becomes F (JX W.heap.size pb pd most ts d 0 ⟨0, 0, [], false⟩ (.slice none 0 0)) w (W.alloc (.cells (jcs pb pd 0 0 (.slice none 0 0) 0 false) TJ)) := by
  have h1 := (h.hold (BD_good _ _ _ _ _) (jcs pb pd 0 0 (.slice none 0 0) 0 false) TJ).erow0 TE 8
  exact h1.imp (Ass.imp.swap _ _ _)
theorem jdrop {p : Nat} {m : Int} {J : Jn} {v : Value} (h : Becomes F (JX p pb pd most ts d m J v) w W) : Becomes F (BD pb pd most ts d) w W := h.drop.drop
def JOpen (F : List Nat) (pb pd : Nat) (most : Int) (ts : List ByteArray) (d : Dk) (w : World) (e : Ending) (w' : World) : Prop :=
  (joE most ts d = 0 ∧ ∃ p, e = .returned (.tuple #[.pointer (some ⟨p, 0, none⟩), .int .i64 0]) ∧ Becomes F (JA p pb pd most (joT most ts d) (joD most ts d) ((d.kept.length - 2 : Nat) : Int) (joJ most ts d)) w w') ∨
  (joE most ts d ≠ 0 ∧ e = .returned (.tuple #[.pointer none, .int .i64 (joE most ts d)]) ∧ Becomes F (BD pb pd most (joT most ts d) (joD most ts d)) w w')
theorem Dk.rd_down {d : Dk} (hd : d.down = true) (i : Int) : d.rdE i = 801 := by unfold Dk.rdE; rw [hd]; rfl
set_option maxHeartbeats 2000000 in
theorem jopen (h : Becomes F (BD pb pd most ts d) w W) (hg : Gd w) (hF : 0 ∉ F) (ho : d.Ok) (hl : ts.length ≤ 1000000) (hn : d.waits.length ≤ 1000000) :
    Calls Tryz.prog 34 #[.pointer (some ⟨pb, 0, none⟩), .pointer (some ⟨pd, 0, none⟩)] W (JOpen F pb pd most ts d w) := by
  have h1 := jlaid h
  by_cases hE : joE most ts d = 0
  · have hh := hE
    unfold joE at hh
    split at hh
    · cases hh
    · rename_i hd
      split at hh
      · cases hh
      · rename_i hk
        split at hh
        · rename_i hs
          have S0 := Lib.hid (jstart_ok h1 hg hF ho (by simpa using hd) (by omega) hl hn hs)
          have HE := Lib.hid hE
          clear h1 hg ho hl hn hE hd hk hs hh h
          go_enter Tryz.func34, Tryz.ntmps34
          go_wp2_with (go_at_call 56; (with_reducible refine S0.out.mono ?_); rintro e w1 ⟨rfl, h2⟩)
          go_ret2
          exact .inl ⟨HE.out, _, rfl, h2⟩
        · cases hh
  · have key : ∃ n, (n = 801 ∨ n = 800 ∨ n = 1000) ∧ joE most ts d = joN n ∧ Calls Tryz.prog 56 #[.pointer (some ⟨W.heap.size, 0, none⟩)] (W.alloc (.cells (jcs pb pd 0 0 (.slice none 0 0) 0 false) TJ)) fun e w' => ∃ er, e = .returned er ∧ Er w' er n ∧ Becomes F (BD pb pd most (joT most ts d) (joD most ts d)) w w' := by
      have eD : joD most ts d = d := by unfold joD; rw [if_neg hE]
      rw [eD]
      by_cases hd : d.down = true
      · refine ⟨801, .inl rfl, by unfold joE; rw [if_pos hd]; rfl, ?_⟩
        have eT : joT most ts d = ts := by unfold joT; rw [if_pos hd]
        rw [eT]
        have := jstart_bad h1 (by rw [Dk.rd_down hd]; decide)
        rw [Dk.rd_down hd] at this
        exact this.mono fun _ _ ⟨er, a, b, c⟩ => ⟨er, a, b, jdrop c⟩
      · have hd' : d.down = false := by simpa using hd
        by_cases hk : d.kept.length < 3
        · refine ⟨800, .inr (.inl rfl), by unfold joE; rw [if_neg hd, if_pos hk]; rfl, ?_⟩
          have eT : joT most ts d = ts := by unfold joT; rw [if_neg hd, if_pos hk]
          rw [eT]
          have h8 : d.rdE 2 = 800 := Dk.rd_end (i := 2) hd' (by omega)
          have := jstart_bad h1 (by rw [h8]; decide)
          rw [h8] at this
          exact this.mono fun _ _ ⟨er, a, b, c⟩ => ⟨er, a, b, jdrop c⟩
        · have hs : suE most ts (joB ts d) ≠ 0 := fun c => hE (by unfold joE; rw [if_neg hd, if_neg hk, if_pos c])
          refine ⟨1000, .inr (.inr rfl), by unfold joE; rw [if_neg hd, if_neg hk, if_neg hs]; rfl, ?_⟩
          have eT : joT most ts d = suT most ts (joB ts d) := by unfold joT; rw [if_neg hd, if_neg hk]
          rw [eT]
          exact (jstart_full h1 hg hF ho hd' (by omega) hl hs).mono fun _ _ ⟨er, a, b, c⟩ => ⟨er, a, b, jdrop c⟩
    obtain ⟨n, hn3, hN, hS⟩ := key
    have S0 := Lib.hid hS
    have HE := Lib.hid hE
    have HN := Lib.hid hN
    have HR := Lib.hid (fun w v h => @jerrno w v n h (by omega))
    have HF := Lib.hid (fun w v h => @er_fault w v n h (by omega))
    clear h1 hg ho hl hn hE h hS hN hn3
    go_enter Tryz.func34, Tryz.ntmps34
    go_wp2_with (first
      | (go_at_call 56; (with_reducible refine S0.out.mono ?_); rintro e w1 ⟨er, rfl, hE, h2⟩; obtain ⟨b, rfl⟩ := HF.out _ _ hE)
      | (go_at_call 47; (with_reducible refine (HR.out _ _ hE).mono ?_); rintro e w2 ⟨rfl, rfl⟩))
    go_ret2
    exact .inr ⟨HE.out, by rw [HN.out]; rfl, h2⟩
theorem jopen_nil1 (v : Value) (w : World) : Calls Tryz.prog 34 #[.pointer none, v] w fun e w' => e = .returned (.tuple #[.pointer none, .int .i64 1]) ∧ w = w' := by
  go_enter Tryz.func34, Tryz.ntmps34
  go_wp2
  go_ret2
  exact ⟨rfl, rfl⟩
end
open Go Go.RowKit
abbrev ca0 : Oper := ⟨some 16, .buildSlice 80 0 #[], 80, "journal.go:246", #[], none⟩
abbrev ca1 : Oper := ⟨some 17, .move (.tmp 0), 32, "journal.go:246", #[⟨5, .gcOnly .lateStores⟩], none⟩
abbrev ca2 : Oper := ⟨some 18, .nilCheck (.tmp 17), 0, "journal.go:246", #[⟨1, .data⟩, ⟨5, .gcOnly .lateStores⟩], none⟩
abbrev ca3 : Oper := ⟨some 19, .fieldAddr 100 (.tmp 18) 5, 0, "journal.go:246", #[⟨2, .data⟩, ⟨5, .gcOnly .lateStores⟩], none⟩
abbrev ca4 : Oper := ⟨some 20, .load 3 (.tmp 19), 3, "journal.go:246", #[⟨3, .data⟩, ⟨5, .gcOnly .lateStores⟩], none⟩
abbrev ca5 : Oper := ⟨some 7, .assign (.tmp 16), 80, "journal.go:246", #[⟨0, .data⟩, ⟨0, .phase⟩, ⟨1, .textOnly .lateStores⟩, ⟨2, .textOnly .lateStores⟩, ⟨3, .textOnly .lateStores⟩, ⟨4, .textOnly .lateStores⟩], none⟩
abbrev ca6 : Oper := ⟨some 8, .assign (.tmp 20), 3, "journal.go:246", #[⟨4, .data⟩, ⟨5, .chain⟩, ⟨0, .phase⟩, ⟨1, .phase⟩, ⟨2, .phase⟩, ⟨3, .phase⟩, ⟨4, .phase⟩, ⟨5, .phase⟩], none⟩
abbrev cb0 : Oper := ⟨some 28, .move (.tmp 0), 32, "journal.go:248", #[], none⟩
abbrev cb1 : Oper := ⟨some 29, .call { callee := .value (.func 94), args := #[.tmp 28], argTypes := #[32] }, 3, "journal.go:248", #[⟨0, .data⟩], none⟩
abbrev cb2 : Oper := ⟨some 30, .move (.tmp 9), 3, "journal.go:248", #[], none⟩
abbrev cb3 : Oper := ⟨some 31, .binOp .add 3 (.tmp 29) (.tmp 30) 3, 3, "journal.go:248", #[⟨1, .data⟩, ⟨2, .data⟩], none⟩
abbrev cb4 : Oper := ⟨some 32, .move (.tmp 0), 32, "journal.go:248", #[], none⟩
abbrev cb5 : Oper := ⟨some 33, .nilCheck (.tmp 32), 0, "journal.go:248", #[⟨4, .data⟩], none⟩
abbrev cb6 : Oper := ⟨some 34, .fieldAddr 100 (.tmp 33) 2, 0, "journal.go:248", #[⟨5, .data⟩], none⟩
abbrev cb7 : Oper := ⟨some 35, .load 3 (.tmp 34), 3, "journal.go:248", #[⟨6, .data⟩], none⟩
abbrev cb8 : Oper := ⟨some 36, .move (.tmp 8), 3, "journal.go:248", #[], none⟩
abbrev cb9 : Oper := ⟨some 37, .load 61 (.tmp 10), 61, "journal.go:248", #[], none⟩
abbrev cb10 : Oper := ⟨some 38, .build 74 #[(0, .tmp 31), (1, .tmp 35), (2, .tmp 36), (3, .tmp 37)], 74, "journal.go:248", #[⟨3, .data⟩, ⟨7, .data⟩, ⟨8, .data⟩, ⟨9, .data⟩], none⟩
abbrev cb11 : Oper := ⟨some 11, .alloc 74, 0, "journal.go:248", #[], none⟩
abbrev cb12 : Oper := ⟨none, .store 74 (.tmp 11) (.tmp 38), 0, "journal.go:248", #[⟨11, .data⟩, ⟨10, .data⟩, ⟨1, .chain⟩, ⟨0, .phase⟩, ⟨1, .phase⟩, ⟨2, .phase⟩, ⟨3, .phase⟩, ⟨4, .phase⟩, ⟨5, .phase⟩, ⟨6, .phase⟩, ⟨7, .phase⟩, ⟨8, .phase⟩, ⟨9, .phase⟩, ⟨10, .phase⟩, ⟨11, .phase⟩], none⟩
abbrev cc0 : Oper := ⟨some 40, .move (.tmp 0), 32, "journal.go:249", #[], none⟩
abbrev cc1 : Oper := ⟨some 41, .nilCheck (.tmp 40), 0, "journal.go:249", #[⟨0, .data⟩], none⟩
abbrev cc2 : Oper := ⟨some 42, .fieldAddr 100 (.tmp 41) 0, 0, "journal.go:249", #[⟨1, .data⟩], none⟩
abbrev cc3 : Oper := ⟨some 43, .load 23 (.tmp 42), 23, "journal.go:249", #[⟨2, .data⟩], none⟩
abbrev cc4 : Oper := ⟨some 44, .load 74 (.tmp 11), 74, "journal.go:249", #[], none⟩
abbrev cc5 : Oper := { dst := some 45, op := Op.call { callee := Callee.value (Operand.func 95), args := #[Operand.tmp 43, Operand.tmp 44], argTypes := #[23, 74] }, type := 161, pos := "journal.go:249", after := #[{ on := 3, ground := Ground.data }, { on := 4, ground := Ground.data }], guard := none }
abbrev cc6 : Oper := { dst := some 39, op := Op.move (Operand.tmp 45), type := 161, pos := "journal.go:249", after := #[{ on := 5, ground := Ground.data }], guard := none }
abbrev cc7 : Oper := ⟨some 46, .extract (.tmp 39) 0, 9, "journal.go:249", #[⟨6, .data⟩], none⟩
abbrev cc8 : Oper := ⟨some 47, .extract (.tmp 39) 1, 3, "journal.go:249", #[⟨6, .data⟩, ⟨10, .gcOnly .lateStores⟩], none⟩
abbrev cc9 : Oper := ⟨some 48, .extract (.tmp 39) 2, 40, "journal.go:249", #[⟨6, .data⟩, ⟨11, .gcOnly .lateStores⟩], none⟩
abbrev cc10 : Oper := ⟨some 12, .assign (.tmp 46), 9, "journal.go:249", #[⟨7, .data⟩, ⟨5, .chain⟩, ⟨0, .phase⟩, ⟨1, .phase⟩, ⟨2, .phase⟩, ⟨3, .phase⟩, ⟨4, .phase⟩, ⟨5, .phase⟩, ⟨6, .phase⟩, ⟨7, .phase⟩, ⟨8, .textOnly .lateStores⟩, ⟨9, .textOnly .lateStores⟩], none⟩
abbrev cc11 : Oper := ⟨some 13, .assign (.tmp 47), 3, "journal.go:249", #[⟨8, .data⟩, ⟨10, .chain⟩, ⟨0, .phase⟩, ⟨1, .phase⟩, ⟨2, .phase⟩, ⟨3, .phase⟩, ⟨4, .phase⟩, ⟨5, .phase⟩, ⟨6, .phase⟩, ⟨7, .phase⟩, ⟨8, .phase⟩, ⟨9, .textOnly .lateStores⟩, ⟨10, .phase⟩], none⟩
abbrev cc12 : Oper := ⟨some 14, .assign (.tmp 48), 40, "journal.go:249", #[⟨9, .data⟩, ⟨11, .chain⟩, ⟨0, .phase⟩, ⟨1, .phase⟩, ⟨2, .phase⟩, ⟨3, .phase⟩, ⟨4, .phase⟩, ⟨5, .phase⟩, ⟨6, .phase⟩, ⟨7, .phase⟩, ⟨8, .phase⟩, ⟨9, .phase⟩, ⟨10, .phase⟩, ⟨11, .phase⟩], none⟩
def JpAt (most B : Int) (ts : List ByteArray) (n : Nat) (l : Int) (es : List Ev) (k : Nat) (T ss : List ByteArray) (l2 : Int) : Prop :=
  ss.length = k ∧ T.length ≤ ts.length + k ∧ jpGo most B ts n l es = ((jpGo most B T (n + k) l2 (es.drop k)).1, (jpGo most B T (n + k) l2 (es.drop k)).2.map fun z => (ss ++ z.1, z.2))
theorem JpAt.start (most B : Int) (ts : List ByteArray) (n : Nat) (l : Int) (es : List Ev) : JpAt most B ts n l es 0 ts [] l := ⟨rfl, Nat.le_refl _, by
  rw [List.drop_zero, Nat.add_zero]
  simp⟩
theorem drop_ev {es : List Ev} {k : Nat} (h : k < es.length) : es.drop k = es.getD k Ev.zero :: es.drop (k + 1) := by rw [List.drop_eq_getElem_cons h]; simp [List.getD, h]
theorem JpAt.step {most B : Int} {ts : List ByteArray} {n : Nat} {l : Int} {es : List Ev} {k : Nat} {T ss : List ByteArray} {l2 : Int} (h : JpAt most B ts n l es k T ss l2) (hk : k < es.length) (hE : rcE most T ⟨((n + k : Nat) : Int) + 1, B, l2, es.getD k Ev.zero⟩ = 0) :
    JpAt most B ts n l es (k + 1) (rcT most T ⟨((n + k : Nat) : Int) + 1, B, l2, es.getD k Ev.zero⟩) (ss ++ [rcS most T ⟨((n + k : Nat) : Int) + 1, B, l2, es.getD k Ev.zero⟩]) (rcN most T ⟨((n + k : Nat) : Int) + 1, B, l2, es.getD k Ev.zero⟩) := by
  obtain ⟨h1, h2, h3⟩ := h
  have hl := rcT_len (most := most) (ts := T) ⟨((n + k : Nat) : Int) + 1, B, l2, es.getD k Ev.zero⟩
  refine ⟨by simp [h1], by omega, ?_⟩
  rw [h3, drop_ev hk]
  conv => lhs; unfold jpGo
  rw [if_pos hE]
  simp only [Option.map_map]
  rw [show n + (k + 1) = n + k + 1 by omega]
  congr 2
  funext z
  simp
theorem JpAt.stop {most B : Int} {ts : List ByteArray} {n : Nat} {l : Int} {es : List Ev} {k : Nat} {T ss : List ByteArray} {l2 : Int} (h : JpAt most B ts n l es k T ss l2) (hk : k < es.length) (hE : rcE most T ⟨((n + k : Nat) : Int) + 1, B, l2, es.getD k Ev.zero⟩ ≠ 0) :
    jpGo most B ts n l es = (rcT most T ⟨((n + k : Nat) : Int) + 1, B, l2, es.getD k Ev.zero⟩, none) := by
  obtain ⟨h1, h2, h3⟩ := h
  rw [h3, drop_ev hk]
  conv => lhs; unfold jpGo
  rw [if_neg hE]
  rfl
theorem JpAt.done {most B : Int} {ts : List ByteArray} {n : Nat} {l : Int} {es : List Ev} {k : Nat} {T ss : List ByteArray} {l2 : Int} (h : JpAt most B ts n l es k T ss l2) (hk : es.length ≤ k) : jpGo most B ts n l es = (T, some (ss, l2)) := by
  obtain ⟨h1, h2, h3⟩ := h
  rw [h3, List.drop_eq_nil_of_le hk]
  simp [jpGo]
def strs (ss : List ByteArray) : List Value := ss.map Value.string
theorem infoSt : (Tryz.prog.info? 9).map (fun i => (i.zero, i.size, i.bytes)) = some (some (.string ⟨#[]⟩), 1, 16) := by kernel_rfl
theorem rowE_none (w : World) : (w.alloc (.cells #[] 9)).ownsRow 0 9 1 (.slice (some ⟨w.heap.size, 0, none⟩) 0 0) 0 [] := ⟨rfl, .inr ⟨w.heap.size, 0, #[], rfl, Nat.zero_le _, heap_alloc_new w _, Nat.le_refl _, by decide, rfl, rfl⟩⟩
theorem jexec_slice0 {a : Act} {w : World} {op : Oper} (ho : op.op = .buildSlice 80 0 #[]) : (execOp a.eval op).run Tryz.prog w = .ok (.value (.slice (some ⟨w.heap.size, 0, none⟩) 0 0)) (w.alloc (.cells #[] 9)) := by
  unfold execOp
  simp only [ho, List.map_toArray, List.map_nil, Sem.run_bind]
  go_simp
section
variable {F : List Nat} {w W : World} {p pb pd : Nat} {most : Int} {ts : List ByteArray} {d : Dk} {m : Int} {J : Jn} {v : Value}
theorem Becomes.row_none {C : Ass} (hC : C.Good) (h : Becomes F C w W) : Becomes F ((rowE 9 1 (.slice (some ⟨W.heap.size, 0, none⟩) 0 0) ([] : List ByteArray).length (strs [])).star C) w (W.alloc (.cells #[] 9)) := by
  obtain ⟨F', g1, g2, g3⟩ := h
  have hs := (hC W F' g1).1
  refine ⟨[W.heap.size] ++ F', ⟨[W.heap.size], F', rfl, ⟨rowE_none W, rfl⟩, hC.below g1 ((Below.refl _ _).alloc (Nat.le_refl _) _), fun k hk hk' => ?_⟩, g2.alloc _, fun k hk => ?_⟩
  · simp at hk; subst hk; have := hs _ hk'; omega
  · simp at hk
    rcases hk with rfl | hk
    · exact .inr g2.size
    · exact g3 k hk
theorem app_str1 {C : Ass} (hC : C.Good) {ops : Array Oper} {rest : List Oper} {o : Oper} {a : Act} {Q : Exit → Act → World → Prop} (hgd : o.guard = Option.none) (s x : Operand)
    (ho : o.op = .call { callee := .builtin .append, args := #[s, x], argTypes := #[80, 80] }) (v : Value) (ns : List ByteArray) (n : ByteArray) (hs : a.eval s = v) (hx : a.eval x = .slice (some ⟨W.heap.size, 0, Option.none⟩) 1 1)
    (hS : Becomes F ((rowE 9 1 v ns.length (strs ns)).star C) w W) (hn : ns.length ≤ 1000) (h : ∀ v' w', Becomes F ((rowE 9 1 v' (ns ++ [n]).length (strs (ns ++ [n]))).star C) w w' → wpList Tryz.prog ops Q rest (a.put o.dst v') w') :
    wpList Tryz.prog ops Q (o :: rest) a (W.alloc (.cells #[.string n] 9)) := by
  obtain ⟨i, hi, hz0, hz1, hz2⟩ := info_parts infoSt
  have hr := hS.erow
  refine wpList_append_own_at _ hgd s x 80 ho 0 9 i _ 1 16 Tryz.underlying80 hi hz0 hz1 hz2 rfl (by decide) v ns.length (strs ns) hs (hr.alloc _) ⟨W.heap.size, 0, Option.none⟩ 1 1 [.string n] hx rfl (cell_one_new _ _ _) ?_ ?_ ?_ (Nat.zero_le _) ?_
  · intro u hu; simp at hu; subst hu; rfl
  · unfold maxLen; omega
  · omega
  · intro v' w' h1 h2 _ h4
    have hg := (World.grownBy_alloc W (.cells #[.string n] 9) _).trans h2
    refine h v' w' (hS.appendedE hC hg ?_ ?_)
    · rw [List.length_append, strs, List.map_append]; exact h1
    · rcases h4 with e | e
      · exact .inl e
      · exact .inr ⟨_, by simp, e⟩
def JChain (F : List Nat) (p pb pd : Nat) (most : Int) (ts : List ByteArray) (d : Dk) (m : Int) (J : Jn) (v : Value) (es : List Ev) (w : World) (e : Ending) (w' : World) : Prop :=
  (∃ ss l' vs, (jpGo most J.boot ts J.all.length J.last es).2 = some (ss, l') ∧ e = .returned (.tuple #[vs, .int .i64 l', .nilIface]) ∧ Becomes F ((rowE 9 1 vs ss.length (strs ss)).star (JX p pb pd most (jpGo most J.boot ts J.all.length J.last es).1 d m J v)) w w') ∨
  ((jpGo most J.boot ts J.all.length J.last es).2 = none ∧ ∃ er, e = .returned (.tuple #[.slice none 0 0, .int .i64 0, er]) ∧ Er w' er 900 ∧ Becomes F (JX p pb pd most (jpGo most J.boot ts J.all.length J.last es).1 d m J v) w w')
set_option maxRecDepth 100000 in
set_option maxHeartbeats 8000000 in
theorem jchain (h : Becomes F (JX p pb pd most ts d m J v) w W) {ao : Option Addr} {n cap : Nat} {es : List Ev} (hes : EsIn F w ao n es) (hl : ts.length + es.length ≤ 1000000) (hn : J.all.length + es.length ≤ 1000) :
    Calls Tryz.prog 72 #[.pointer (some ⟨p, 0, none⟩), .slice ao n cap] W (JChain F p pb pd most ts d m J v es w) := by
  obtain ⟨hlen0, hrow0, hfew0⟩ := hes
  subst hlen0
  have hJ := fun T => JX_good p pb pd most T d m J v
  have HFin := Lib.hid (fun e w' (h : JChain F p pb pd most ts d m J v es w e w') => h)
  obtain ⟨aj, cj, rfl⟩ := JX.shape h
  go_enter Tryz.func72, Tryz.ntmps72
  go_wp2
  refine region_held (S := fun Z8 => Becomes F (JX p pb pd most ts d m J (.slice aj J.all.length cj)) w Z8) 7 [false, false, false, false, false, false, false] rfl rfl (by kernel_rfl) fun V0 hW => ?_
  have hV0 := JX.lay h (bdrew W)
  rw [← hW] at hV0
  clear hW h
  refine run_go [(1, ca1, (some 17)), (2, ca2, (some 18)), (3, ca3, (some 19)), (4, ca4, (some 20))] (by kernel_rfl) ?_
  iterate 4 (refine run_take ?_ rfl rfl (fun _ _ _ h => h) (Or.inl ⟨by rfl, ?_⟩) hV0 ?_; rotate_left; (· (intro w0 hy0; obtain ⟨k0, k1, k2, k3, k4, k5, k6⟩ := JX.cells hy0; (go_simp <;> with_reducible rfl))); simp only [Act.put, List.setIfInBounds_toArray, List.set_cons_zero, List.set_cons_succ])
  refine run_end ?_
  have hV1 := hV0.row_none (hJ ts)
  refine held_one 0 ca0 (some 16) (.slice (some ⟨V0.heap.size, 0, none⟩) 0 0) _ (by kernel_rfl) rfl rfl (by rfl) (jexec_slice0 rfl) hV1.drop ?_
  simp only [Act.put, List.setIfInBounds_toArray, List.set_cons_zero, List.set_cons_succ]
  refine run_go [(5, ca5, (some 7)), (6, ca6, (some 8))] (by kernel_rfl) ?_
  iterate 2 (refine run_take ?_ rfl rfl (fun _ _ _ h => h) (Or.inl ⟨by rfl, ?_⟩) hV1.drop ?_; rotate_left; (· (intro w0 hy0; obtain ⟨k0, k1, k2, k3, k4, k5, k6⟩ := JX.cells hy0; (go_simp <;> with_reducible rfl))); simp only [Act.put, List.setIfInBounds_toArray, List.set_cons_zero, List.set_cons_succ])
  refine run_end ?_
  refine wpAnyH_done (by kernel_rfl) ?_ _
  have h0 : ∃ ao2 c2, Becomes F ((rowE 9 1 (.slice (some ⟨V0.heap.size, 0, none⟩) 0 0) ([] : List ByteArray).length (strs ([] : List ByteArray))).star (JX p pb pd most ts d m J (.slice aj J.all.length cj))) w (V0.alloc (.cells #[] 9)) ∧ .slice (some ⟨V0.heap.size, 0, none⟩) 0 0 = Value.slice ao2 0 c2 := ⟨_, _, hV1, rfl⟩
  clear hV0 h0
  go_wp2
  go_loopw [7, 8, 23] (fun x7 x8 x23 wr => ∃ k : Nat, k ≤ es.length ∧ x23 = .int .i64 (k : Int) ∧ ∃ T ss l2 a2 c2, x7 = .slice a2 k c2 ∧ x8 = .int .i64 l2 ∧ JpAt most J.boot ts J.all.length J.last es k T ss l2 ∧ Becomes F ((rowE 9 1 (.slice a2 k c2) ss.length (strs ss)).star (JX p pb pd most T d m J (.slice aj J.all.length cj))) w wr) (fun _ _ x23 _ => es.length - (intOf x23).toNat)
  case atStart => exact ⟨0, Nat.zero_le _, rfl, ts, [], J.last, _, _, rfl, rfl, JpAt.start _ _ _ _ _ _, hV1⟩
  case round =>
    clear hV1
    obtain ⟨k, hkn, rfl, T, ss, l2, a2, c2, rfl, rfl, hp, hS⟩ := hrel
    by_cases hlt : k < es.length
    · obtain ⟨bb, off, rfl, hrow, hbF, hbl⟩ : ∃ b off, ao = some ⟨b, off, none⟩ ∧ EsAt w b off es ∧ b ∉ F ∧ b < w.heap.size := by
        rcases hrow0 with c | c
        · omega
        · exact c
      have hrw : EsAt wr bb off es := hrow.same (hS.tn.block bb hbl hbF)
      obtain ⟨q0, q1, q2, q3, q4, q5, q6, q7⟩ := hrw.elem (j := k) (by omega)
      obtain ⟨x, hx⟩ : ∃ x, es.getD k Ev.zero = x := ⟨_, rfl⟩
      rw [hx] at q0 q1 q2 q3 q4 q5 q6 q7
      have hpl := hp.1
      have hT := hp.2.1
      obtain ⟨sq, hsq⟩ : ∃ sq : Int, (J.all.length : Int) + 1 + (k : Int) = sq := ⟨_, rfl⟩
      have hsq2 : ((J.all.length + k : Nat) : Int) + 1 = sq := by omega
      have hstep := fun hE => hp.step (by omega) hE
      have hstop := fun hE => hp.stop (by omega) hE
      rw [hsq2, hx] at hstep hstop
      have hpw := IntKind.wrap_i64 ((J.all.length : Int) + 1 + (k : Int))
      have hwr : IntKind.i64.wrap ((J.all.length : Int) + 1 + (k : Int)) = sq := by rw [hpw]; omega
      have hwr3 : IntKind.i64.wrap sq = sq := by rw [IntKind.wrap_i64]; omega
      have HQ := Lib.hid (fun W (h : Becomes F (JX p pb pd most T d m J (.slice aj J.all.length cj)) w W) => jseq h (by omega))
      have HP := Lib.hid (dpputD pb most T (⟨sq, J.boot, l2, x⟩ : Rc) (by omega))
      have HSt := Lib.hid hstep
      have HSp := Lib.hid hstop
      have HSq := Lib.hid hsq
      clear hstep hstop hp hpw hrow hrw hsq2 hx
      have hS0 := hS
      clear hS
      go_wp2
      have hS1 := hS0.hold ((rowE_good _ _ _ _ _).star (hJ T)) #[.int .i64 x.kind, .int .i64 x.user, .int .i64 x.session, .int .i64 x.address, .int .i64 x.a, .int .i64 x.b, .int .i64 x.c, .int .i64 x.tick] 61
      clear hS0 q0 q1 q2 q3 q4 q5 q6 q7
      refine region_held (S := fun Z8 => Becomes F ((ownA wr.heap.size #[.int .i64 x.kind, .int .i64 x.user, .int .i64 x.session, .int .i64 x.address, .int .i64 x.a, .int .i64 x.b, .int .i64 x.c, .int .i64 x.tick] 61).star ((rowE 9 1 (.slice a2 k c2) ss.length (strs ss)).star (JX p pb pd most T d m J (.slice aj J.all.length cj)))) w Z8) 13 [false, false, false, false, false, false, false, false, false, false, false, false, false] rfl rfl (by kernel_rfl) fun V2 hW => ?_
      have hV2 := hS1.lay ((ownA_good _ _ _).star ((rowE_good _ _ _ _ _).star (hJ T))) (bdrew _)
      rw [← hW] at hV2
      clear hW hS1
      refine run_go [(0, cb0, (some 28)), (2, cb2, (some 30)), (4, cb4, (some 32)), (5, cb5, (some 33)), (6, cb6, (some 34)), (7, cb7, (some 35)), (8, cb8, (some 36)), (9, cb9, (some 37))] (by kernel_rfl) ?_
      iterate 8 (refine run_take ?_ rfl rfl (fun _ _ _ h => h) (Or.inl ⟨by rfl, ?_⟩) hV2 ?_; rotate_left; (· (intro w0 hy0; obtain ⟨k0, k1, k2, k3, k4, k5, k6⟩ := JX.cells hy0.drop.drop; have z := hy0.own.1; have z0 := z 0; have z1 := z 1; have z2 := z 2; have z3 := z 3; have z4 := z 4; have z5 := z 5; have z6 := z 6; have z7 := z 7; clear z; (go_simp <;> with_reducible rfl))); simp only [Act.put, List.setIfInBounds_toArray, List.set_cons_zero, List.set_cons_succ])
      refine run_end ?_
      have hA := hV2.lay ((ownA_good _ _ _).star ((rowE_good _ _ _ _ _).star (hJ T))) (balloc V2 (.cells Z11 74))
      have hB := hV2.lay ((ownA_good _ _ _).star ((rowE_good _ _ _ _ _).star (hJ T))) (balloc V2 (.cells #[.int .i64 sq, .int .i64 J.boot, .int .i64 l2, .int .i64 x.kind, .int .i64 x.user, .int .i64 x.session, .int .i64 x.address, .int .i64 x.a, .int .i64 x.b, .int .i64 x.c, .int .i64 x.tick] 74))
      have hY := hV2.hold ((ownA_good _ _ _).star ((rowE_good _ _ _ _ _).star (hJ T))) #[.int .i64 sq, .int .i64 J.boot, .int .i64 l2, .int .i64 x.kind, .int .i64 x.user, .int .i64 x.session, .int .i64 x.address, .int .i64 x.a, .int .i64 x.b, .int .i64 x.c, .int .i64 x.tick] 74
      have hq := (HQ.out _ hV2.drop.drop).mono (R' := fun e w' => e = .returned (.int .i64 ((J.all.length : Int) + 1)) ∧ V2 = w') fun _ _ h => h
      have hqa := (HQ.out _ hA.drop.drop).mono (R' := fun e w' => e = .returned (.int .i64 ((J.all.length : Int) + 1)) ∧ V2.alloc (.cells Z11 74) = w') fun _ _ h => h
      refine jtwo 1 11 (by kernel_rfl) ?_ ?_
      · refine jop_call 1 cb1 (some 29) (.int .i64 ((J.all.length : Int) + 1)) (fun Z9 => V2 = Z9) 94 #[.pointer (some ⟨p, 0, none⟩)] ?_ rfl (by rfl) (jexec_seq (.tmp 28) rfl rfl) hq (fun _ e => e ▸ hV2) ?_
        · rfl
        rintro _ rfl
        simp only [Act.put, List.setIfInBounds_toArray, List.set_cons_zero, List.set_cons_succ]
        refine run_go [(3, cb3, (some 31)), (10, cb10, (some 38))] (by kernel_rfl) ?_
        iterate 2 (refine run_take ?_ rfl rfl (fun _ _ _ h => h) (Or.inl ⟨by rfl, ?_⟩) hV2 ?_; rotate_left; (· (intro w0 hy0; obtain ⟨k0, k1, k2, k3, k4, k5, k6⟩ := JX.cells hy0.drop.drop; have z := hy0.own.1; have z0 := z 0; have z1 := z 1; have z2 := z 2; have z3 := z 3; have z4 := z 4; have z5 := z 5; have z6 := z 6; have z7 := z 7; clear z; have hwr2 := hwr; (go_simp <;> with_reducible rfl))); simp only [Act.put, List.setIfInBounds_toArray, List.set_cons_zero, List.set_cons_succ])
        refine run_end ?_
        refine held_one 11 cb11 (some 11) (.pointer (some ⟨V2.heap.size, 0, none⟩)) _ (by kernel_rfl) rfl rfl (by rfl) (jexec_alloc_rc rfl) hA ?_
        simp only [Act.put, List.setIfInBounds_toArray, List.set_cons_zero, List.set_cons_succ]
        refine held_void 12 cb12 _ (by kernel_rfl) rfl (by rfl) (jexec_store_rc (.tmp 11) (.tmp 38) rfl sq J.boot l2 x.kind x.user x.session x.address x.a x.b x.c x.tick rfl rfl) hB ?_
        simp only [Act.put, List.setIfInBounds_toArray, List.set_cons_zero, List.set_cons_succ]
        refine wpAnyH_done (by kernel_rfl) ?_ _
        clear hA hB hq hqa hV2
        go_wp2
        refine region_held (S := fun Z8 => (∀ i, Z8.cell? ⟨p, i, none⟩ = (jcs pb pd J.boot m (.slice aj J.all.length cj) J.last J.over)[i]?) ∧ ∀ i, Z8.cell? ⟨V2.heap.size, i, none⟩ = (#[.int .i64 sq, .int .i64 J.boot, .int .i64 l2, .int .i64 x.kind, .int .i64 x.user, .int .i64 x.session, .int .i64 x.address, .int .i64 x.a, .int .i64 x.b, .int .i64 x.c, .int .i64 x.tick] : Array Value)[i]?) 13 [false, false, false, false, false, false, false, false, false, false, false, false, false] rfl rfl (by kernel_rfl) fun V3 hW => ?_
        have hV3 := hY.lay ((ownA_good _ _ _).star ((ownA_good _ _ _).star ((rowE_good _ _ _ _ _).star (hJ T)))) (bdrew _)
        rw [← hW] at hV3
        have hC3 := And.intro hV3.drop.drop.drop.own.1 hV3.own.1
        clear hW hY
        refine run_go [(0, cc0, (some 40)), (1, cc1, (some 41)), (2, cc2, (some 42)), (3, cc3, (some 43)), (4, cc4, (some 44))] (by kernel_rfl) ?_
        iterate 5 (refine run_take ?_ rfl rfl (fun _ _ _ h => h) (Or.inl ⟨by rfl, ?_⟩) hC3 ?_; rotate_left; (· (intro w0 hy0; obtain ⟨y1, y2⟩ := hy0; have k0 := y1 0; have z0 := y2 0; have z1 := y2 1; have z2 := y2 2; have z3 := y2 3; have z4 := y2 4; have z5 := y2 5; have z6 := y2 6; have z7 := y2 7; have z8 := y2 8; have z9 := y2 9; have z10 := y2 10; clear y1 y2; (go_simp <;> with_reducible rfl))); simp only [Act.put, List.setIfInBounds_toArray, List.set_cons_zero, List.set_cons_succ])
        refine run_end ?_
        have hPut := Becomes.opN HP.out (X' := ((ownA V2.heap.size #[.int .i64 sq, .int .i64 J.boot, .int .i64 l2, .int .i64 x.kind, .int .i64 x.user, .int .i64 x.session, .int .i64 x.address, .int .i64 x.a, .int .i64 x.b, .int .i64 x.c, .int .i64 x.tick] 74).star ((ownA wr.heap.size #[.int .i64 x.kind, .int .i64 x.user, .int .i64 x.session, .int .i64 x.address, .int .i64 x.a, .int .i64 x.b, .int .i64 x.c, .int .i64 x.tick] 61).star ((rowE 9 1 (.slice a2 k c2) ss.length (strs ss)).star (JX p pb pd most (rcT most T (⟨sq, J.boot, l2, x⟩ : Rc)) d m J (.slice aj J.all.length cj)))))) (R := (ownA V2.heap.size #[.int .i64 sq, .int .i64 J.boot, .int .i64 l2, .int .i64 x.kind, .int .i64 x.user, .int .i64 x.session, .int .i64 x.address, .int .i64 x.a, .int .i64 x.b, .int .i64 x.c, .int .i64 x.tick] 74).star ((ownA wr.heap.size #[.int .i64 x.kind, .int .i64 x.user, .int .i64 x.session, .int .i64 x.address, .int .i64 x.a, .int .i64 x.b, .int .i64 x.c, .int .i64 x.tick] 61).star ((rowE 9 1 (.slice a2 k c2) ss.length (strs ss)).star ((ownA p (jcs pb pd J.boot m (.slice aj J.all.length cj) J.last J.over) TJ).star ((rowE TE 8 (.slice aj J.all.length cj) J.all.length (ecells J.all)).star ((dpA pd d).star emp)))))) (up5 _ _ _ _ _ _ _) (dn5 _ _ _ _ _ _ _) ((ownA_good _ _ _).star ((ownA_good _ _ _).star ((rowE_good _ _ _ _ _).star ((ownA_good _ _ _).star ((rowE_good _ _ _ _ _).star ((dpA_good _ _).star emp_good)))))) hV3
        refine held_call 5 cc5 (some 45) (.tuple #[.string (rcS most T (⟨sq, J.boot, l2, x⟩ : Rc)), .int .i64 (rcN most T (⟨sq, J.boot, l2, x⟩ : Rc)), .int .i64 (rcE most T (⟨sq, J.boot, l2, x⟩ : Rc))]) (fun Z9 => Becomes F ((ownA V2.heap.size #[.int .i64 sq, .int .i64 J.boot, .int .i64 l2, .int .i64 x.kind, .int .i64 x.user, .int .i64 x.session, .int .i64 x.address, .int .i64 x.a, .int .i64 x.b, .int .i64 x.c, .int .i64 x.tick] 74).star ((ownA wr.heap.size #[.int .i64 x.kind, .int .i64 x.user, .int .i64 x.session, .int .i64 x.address, .int .i64 x.a, .int .i64 x.b, .int .i64 x.c, .int .i64 x.tick] 61).star ((rowE 9 1 (.slice a2 k c2) ss.length (strs ss)).star (JX p pb pd most (rcT most T (⟨sq, J.boot, l2, x⟩ : Rc)) d m J (.slice aj J.all.length cj))))) w Z9) 95 #[.pointer (some ⟨pb, 0, none⟩), .agg #[.int .i64 sq, .int .i64 J.boot, .int .i64 l2, .int .i64 x.kind, .int .i64 x.user, .int .i64 x.session, .int .i64 x.address, .int .i64 x.a, .int .i64 x.b, .int .i64 x.c, .int .i64 x.tick]] (by kernel_rfl) rfl rfl (by rfl) (jexec_put (.tmp 43) (.tmp 44) rfl rfl rfl) hPut (fun _ hX => ⟨hX.drop.drop.drop.own.1, hX.own.1⟩) ?_
        intro V4 hV4
        simp only [Act.put, List.setIfInBounds_toArray, List.set_cons_zero, List.set_cons_succ]
        have hC4 := And.intro hV4.drop.drop.drop.own.1 hV4.own.1
        refine run_go [(6, cc6, (some 39)), (7, cc7, (some 46)), (8, cc8, (some 47)), (9, cc9, (some 48)), (10, cc10, (some 12)), (11, cc11, (some 13)), (12, cc12, (some 14))] (by kernel_rfl) ?_
        iterate 7 (refine run_take ?_ rfl rfl (fun _ _ _ h => h) (Or.inl ⟨by rfl, ?_⟩) hC4 ?_; rotate_left; (· (intro w0 hy0; obtain ⟨y1, y2⟩ := hy0; have k0 := y1 0; have z0 := y2 0; have z1 := y2 1; have z2 := y2 2; have z3 := y2 3; have z4 := y2 4; have z5 := y2 5; have z6 := y2 6; have z7 := y2 7; have z8 := y2 8; have z9 := y2 9; have z10 := y2 10; clear y1 y2; (go_simp <;> with_reducible rfl))); simp only [Act.put, List.setIfInBounds_toArray, List.set_cons_zero, List.set_cons_succ])
        refine run_end ?_
        refine wpAnyH_done (by kernel_rfl) ?_ _
        clear hPut hV3 hC3 HP HQ
        have z0 := hC4.2 0
        have HV4 := Lib.hid hV4.drop.drop
        clear hC4 hV4
        by_cases hE : rcE most T (⟨sq, J.boot, l2, x⟩ : Rc) = 0
        · have hK := HSt.out hE
          rw [hE]
          generalize rcS most T (⟨sq, J.boot, l2, x⟩ : Rc) = SS at *
          generalize rcN most T (⟨sq, J.boot, l2, x⟩ : Rc) = NN at *
          generalize rcT most T (⟨sq, J.boot, l2, x⟩ : Rc) = TT at *
          have HK := Lib.hid hK
          clear HSp HSt hK hE
          go_wp2_with (first | (go_at_call 86; (with_reducible refine (fltof _ _ _ _).mono ?_); rintro e w3 ⟨er, rfl, hEr, hb⟩; obtain rfl := er_nil hEr; have h5 := HV4.out.lay ((rowE_good _ _ _ _ _).star (hJ TT)) hb; clear hEr hb) | (at_builtin; refine app_str1 (hJ TT) rfl _ _ rfl _ ss SS rfl rfl h5 (by omega) ?_; intro v7 w7 h7; obtain ⟨a7, c7, e7⟩ := rowE_shape h7.erow; subst e7))
          have hq7 : (ss ++ [SS]).length = k + 1 := by rw [List.length_append, hpl]; rfl
          have H7 : Becomes F ((rowE 9 1 (.slice a7 (k + 1) c7) (ss ++ [SS]).length (strs (ss ++ [SS]))).star (JX p pb pd most TT d m J (.slice aj J.all.length cj))) w w7 := by rw [hq7] at h7 ⊢; exact h7
          clear hq7 h7
          go_round
          case rel => exact ⟨k + 1, by omega, by go_num, TT, ss ++ [SS], NN, a7, c7, rfl, rfl, HK.out, H7⟩
          case measure => simp [intOf]; omega
        · have hK := HSp.out hE
          have h900 : rcE most T (⟨sq, J.boot, l2, x⟩ : Rc) = 900 := by unfold rcE at hE ⊢; split at hE; exact absurd rfl hE; rename_i c; rw [if_neg c]
          rw [h900]
          generalize rcS most T (⟨sq, J.boot, l2, x⟩ : Rc) = SS at *
          generalize rcN most T (⟨sq, J.boot, l2, x⟩ : Rc) = NN at *
          generalize rcT most T (⟨sq, J.boot, l2, x⟩ : Rc) = TT at *
          have HK := Lib.hid hK
          clear HSp HSt hK hE h900
          go_wp2_with (go_at_call 86; (with_reducible refine (fltof _ _ _ _).mono ?_); rintro e w3 ⟨er, rfl, hEr, hb⟩; obtain ⟨be, rfl⟩ := er_fault hEr (by decide); have h5 := HV4.out.drop.lay (hJ TT) hb; clear hb)
          go_ret3
          exact HFin.out _ _ (.inr ⟨by rw [HK.out], _, rfl, hEr, by rw [HK.out]; exact h5⟩)
      · refine jop_one 11 cb11 (some 11) (.pointer (some ⟨V2.heap.size, 0, none⟩)) _ ?_ rfl (by rfl) (jexec_alloc_rc rfl) hA ?_
        · rfl
        simp only [Act.put, List.setIfInBounds_toArray, List.set_cons_zero, List.set_cons_succ]
        refine held_call 1 cb1 (some 29) (.int .i64 ((J.all.length : Int) + 1)) (fun Z9 => V2.alloc (.cells Z11 74) = Z9) 94 #[.pointer (some ⟨p, 0, none⟩)] (by kernel_rfl) rfl rfl (by rfl) (jexec_seq (.tmp 28) rfl rfl) hqa (fun _ e => e ▸ hA) ?_
        rintro _ rfl
        simp only [Act.put, List.setIfInBounds_toArray, List.set_cons_zero, List.set_cons_succ]
        refine run_go [(3, cb3, (some 31)), (10, cb10, (some 38))] (by kernel_rfl) ?_
        iterate 2 (refine run_take ?_ rfl rfl (fun _ _ _ h => h) (Or.inl ⟨by rfl, ?_⟩) hA ?_; rotate_left; (· (intro w0 hy0; obtain ⟨k0, k1, k2, k3, k4, k5, k6⟩ := JX.cells hy0.drop.drop; have z := hy0.own.1; have z0 := z 0; have z1 := z 1; have z2 := z 2; have z3 := z 3; have z4 := z 4; have z5 := z 5; have z6 := z 6; have z7 := z 7; clear z; have hwr2 := hwr; (go_simp <;> with_reducible rfl))); simp only [Act.put, List.setIfInBounds_toArray, List.set_cons_zero, List.set_cons_succ])
        refine run_end ?_
        refine held_void 12 cb12 _ (by kernel_rfl) rfl (by rfl) (jexec_store_rc (.tmp 11) (.tmp 38) rfl sq J.boot l2 x.kind x.user x.session x.address x.a x.b x.c x.tick rfl rfl) hB ?_
        simp only [Act.put, List.setIfInBounds_toArray, List.set_cons_zero, List.set_cons_succ]
        refine wpAnyH_done (by kernel_rfl) ?_ _
        clear hA hB hq hqa hV2
        go_wp2
        refine region_held (S := fun Z8 => (∀ i, Z8.cell? ⟨p, i, none⟩ = (jcs pb pd J.boot m (.slice aj J.all.length cj) J.last J.over)[i]?) ∧ ∀ i, Z8.cell? ⟨V2.heap.size, i, none⟩ = (#[.int .i64 sq, .int .i64 J.boot, .int .i64 l2, .int .i64 x.kind, .int .i64 x.user, .int .i64 x.session, .int .i64 x.address, .int .i64 x.a, .int .i64 x.b, .int .i64 x.c, .int .i64 x.tick] : Array Value)[i]?) 13 [false, false, false, false, false, false, false, false, false, false, false, false, false] rfl rfl (by kernel_rfl) fun V3 hW => ?_
        have hV3 := hY.lay ((ownA_good _ _ _).star ((ownA_good _ _ _).star ((rowE_good _ _ _ _ _).star (hJ T)))) (bdrew _)
        rw [← hW] at hV3
        have hC3 := And.intro hV3.drop.drop.drop.own.1 hV3.own.1
        clear hW hY
        refine run_go [(0, cc0, (some 40)), (1, cc1, (some 41)), (2, cc2, (some 42)), (3, cc3, (some 43)), (4, cc4, (some 44))] (by kernel_rfl) ?_
        iterate 5 (refine run_take ?_ rfl rfl (fun _ _ _ h => h) (Or.inl ⟨by rfl, ?_⟩) hC3 ?_; rotate_left; (· (intro w0 hy0; obtain ⟨y1, y2⟩ := hy0; have k0 := y1 0; have z0 := y2 0; have z1 := y2 1; have z2 := y2 2; have z3 := y2 3; have z4 := y2 4; have z5 := y2 5; have z6 := y2 6; have z7 := y2 7; have z8 := y2 8; have z9 := y2 9; have z10 := y2 10; clear y1 y2; (go_simp <;> with_reducible rfl))); simp only [Act.put, List.setIfInBounds_toArray, List.set_cons_zero, List.set_cons_succ])
        refine run_end ?_
        have hPut := Becomes.opN HP.out (X' := ((ownA V2.heap.size #[.int .i64 sq, .int .i64 J.boot, .int .i64 l2, .int .i64 x.kind, .int .i64 x.user, .int .i64 x.session, .int .i64 x.address, .int .i64 x.a, .int .i64 x.b, .int .i64 x.c, .int .i64 x.tick] 74).star ((ownA wr.heap.size #[.int .i64 x.kind, .int .i64 x.user, .int .i64 x.session, .int .i64 x.address, .int .i64 x.a, .int .i64 x.b, .int .i64 x.c, .int .i64 x.tick] 61).star ((rowE 9 1 (.slice a2 k c2) ss.length (strs ss)).star (JX p pb pd most (rcT most T (⟨sq, J.boot, l2, x⟩ : Rc)) d m J (.slice aj J.all.length cj)))))) (R := (ownA V2.heap.size #[.int .i64 sq, .int .i64 J.boot, .int .i64 l2, .int .i64 x.kind, .int .i64 x.user, .int .i64 x.session, .int .i64 x.address, .int .i64 x.a, .int .i64 x.b, .int .i64 x.c, .int .i64 x.tick] 74).star ((ownA wr.heap.size #[.int .i64 x.kind, .int .i64 x.user, .int .i64 x.session, .int .i64 x.address, .int .i64 x.a, .int .i64 x.b, .int .i64 x.c, .int .i64 x.tick] 61).star ((rowE 9 1 (.slice a2 k c2) ss.length (strs ss)).star ((ownA p (jcs pb pd J.boot m (.slice aj J.all.length cj) J.last J.over) TJ).star ((rowE TE 8 (.slice aj J.all.length cj) J.all.length (ecells J.all)).star ((dpA pd d).star emp)))))) (up5 _ _ _ _ _ _ _) (dn5 _ _ _ _ _ _ _) ((ownA_good _ _ _).star ((ownA_good _ _ _).star ((rowE_good _ _ _ _ _).star ((ownA_good _ _ _).star ((rowE_good _ _ _ _ _).star ((dpA_good _ _).star emp_good)))))) hV3
        refine held_call 5 cc5 (some 45) (.tuple #[.string (rcS most T (⟨sq, J.boot, l2, x⟩ : Rc)), .int .i64 (rcN most T (⟨sq, J.boot, l2, x⟩ : Rc)), .int .i64 (rcE most T (⟨sq, J.boot, l2, x⟩ : Rc))]) (fun Z9 => Becomes F ((ownA V2.heap.size #[.int .i64 sq, .int .i64 J.boot, .int .i64 l2, .int .i64 x.kind, .int .i64 x.user, .int .i64 x.session, .int .i64 x.address, .int .i64 x.a, .int .i64 x.b, .int .i64 x.c, .int .i64 x.tick] 74).star ((ownA wr.heap.size #[.int .i64 x.kind, .int .i64 x.user, .int .i64 x.session, .int .i64 x.address, .int .i64 x.a, .int .i64 x.b, .int .i64 x.c, .int .i64 x.tick] 61).star ((rowE 9 1 (.slice a2 k c2) ss.length (strs ss)).star (JX p pb pd most (rcT most T (⟨sq, J.boot, l2, x⟩ : Rc)) d m J (.slice aj J.all.length cj))))) w Z9) 95 #[.pointer (some ⟨pb, 0, none⟩), .agg #[.int .i64 sq, .int .i64 J.boot, .int .i64 l2, .int .i64 x.kind, .int .i64 x.user, .int .i64 x.session, .int .i64 x.address, .int .i64 x.a, .int .i64 x.b, .int .i64 x.c, .int .i64 x.tick]] (by kernel_rfl) rfl rfl (by rfl) (jexec_put (.tmp 43) (.tmp 44) rfl rfl rfl) hPut (fun _ hX => ⟨hX.drop.drop.drop.own.1, hX.own.1⟩) ?_
        intro V4 hV4
        simp only [Act.put, List.setIfInBounds_toArray, List.set_cons_zero, List.set_cons_succ]
        have hC4 := And.intro hV4.drop.drop.drop.own.1 hV4.own.1
        refine run_go [(6, cc6, (some 39)), (7, cc7, (some 46)), (8, cc8, (some 47)), (9, cc9, (some 48)), (10, cc10, (some 12)), (11, cc11, (some 13)), (12, cc12, (some 14))] (by kernel_rfl) ?_
        iterate 7 (refine run_take ?_ rfl rfl (fun _ _ _ h => h) (Or.inl ⟨by rfl, ?_⟩) hC4 ?_; rotate_left; (· (intro w0 hy0; obtain ⟨y1, y2⟩ := hy0; have k0 := y1 0; have z0 := y2 0; have z1 := y2 1; have z2 := y2 2; have z3 := y2 3; have z4 := y2 4; have z5 := y2 5; have z6 := y2 6; have z7 := y2 7; have z8 := y2 8; have z9 := y2 9; have z10 := y2 10; clear y1 y2; (go_simp <;> with_reducible rfl))); simp only [Act.put, List.setIfInBounds_toArray, List.set_cons_zero, List.set_cons_succ])
        refine run_end ?_
        refine wpAnyH_done (by kernel_rfl) ?_ _
        clear hPut hV3 hC3 HP HQ
        have z0 := hC4.2 0
        have HV4 := Lib.hid hV4.drop.drop
        clear hC4 hV4
        by_cases hE : rcE most T (⟨sq, J.boot, l2, x⟩ : Rc) = 0
        · have hK := HSt.out hE
          rw [hE]
          generalize rcS most T (⟨sq, J.boot, l2, x⟩ : Rc) = SS at *
          generalize rcN most T (⟨sq, J.boot, l2, x⟩ : Rc) = NN at *
          generalize rcT most T (⟨sq, J.boot, l2, x⟩ : Rc) = TT at *
          have HK := Lib.hid hK
          clear HSp HSt hK hE
          go_wp2_with (first | (go_at_call 86; (with_reducible refine (fltof _ _ _ _).mono ?_); rintro e w3 ⟨er, rfl, hEr, hb⟩; obtain rfl := er_nil hEr; have h5 := HV4.out.lay ((rowE_good _ _ _ _ _).star (hJ TT)) hb; clear hEr hb) | (at_builtin; refine app_str1 (hJ TT) rfl _ _ rfl _ ss SS rfl rfl h5 (by omega) ?_; intro v7 w7 h7; obtain ⟨a7, c7, e7⟩ := rowE_shape h7.erow; subst e7))
          have hq7 : (ss ++ [SS]).length = k + 1 := by rw [List.length_append, hpl]; rfl
          have H7 : Becomes F ((rowE 9 1 (.slice a7 (k + 1) c7) (ss ++ [SS]).length (strs (ss ++ [SS]))).star (JX p pb pd most TT d m J (.slice aj J.all.length cj))) w w7 := by rw [hq7] at h7 ⊢; exact h7
          clear hq7 h7
          go_round
          case rel => exact ⟨k + 1, by omega, by go_num, TT, ss ++ [SS], NN, a7, c7, rfl, rfl, HK.out, H7⟩
          case measure => simp [intOf]; omega
        · have hK := HSp.out hE
          have h900 : rcE most T (⟨sq, J.boot, l2, x⟩ : Rc) = 900 := by unfold rcE at hE ⊢; split at hE; exact absurd rfl hE; rename_i c; rw [if_neg c]
          rw [h900]
          generalize rcS most T (⟨sq, J.boot, l2, x⟩ : Rc) = SS at *
          generalize rcN most T (⟨sq, J.boot, l2, x⟩ : Rc) = NN at *
          generalize rcT most T (⟨sq, J.boot, l2, x⟩ : Rc) = TT at *
          have HK := Lib.hid hK
          clear HSp HSt hK hE h900
          go_wp2_with (go_at_call 86; (with_reducible refine (fltof _ _ _ _).mono ?_); rintro e w3 ⟨er, rfl, hEr, hb⟩; obtain ⟨be, rfl⟩ := er_fault hEr (by decide); have h5 := HV4.out.drop.lay (hJ TT) hb; clear hb)
          go_ret3
          exact HFin.out _ _ (.inr ⟨by rw [HK.out], _, rfl, hEr, by rw [HK.out]; exact h5⟩)
    · have hkn2 : k = es.length := by omega
      subst hkn2
      have hd := hp.done (by omega)
      have hpl := hp.1
      clear hp
      go_wp2
      go_ret3
      exact HFin.out _ _ (.inl ⟨ss, l2, _, by rw [hd], rfl, by rw [hd, hpl]; exact hpl ▸ hS⟩)
end
open Go Go.RowKit
def myN (d : Dk) (m : Int) (J : Jn) (es : List Ev) : Int := if J.over then 1102 else if d.down then 801 else if es.all Ev.may = false then 700 else if m - J.all.length < es.length then 1101 else 0
theorem may_upto {es : List Ev} {k : Nat} (h : ∀ i, i < k → (es.getD i Ev.zero).may = true) (hk : k = es.length) : es.all Ev.may = true := by
  rw [List.all_eq_true]
  intro e he
  obtain ⟨i, hi, rfl⟩ := List.getElem_of_mem he
  have := h i (by omega)
  simpa [List.getD, hi] using this
theorem may_not {es : List Ev} {k : Nat} (hk : k < es.length) (h : (es.getD k Ev.zero).may = false) : es.all Ev.may = false := by
  cases c : es.all Ev.may
  · rfl
  · exfalso
    rw [List.all_eq_true] at c
    have := c (es.getD k Ev.zero) (by simp [List.getD, hk])
    rw [h] at this
    cases this
section
variable {F : List Nat} {w W : World} {p pb pd : Nat} {most : Int} {ts : List ByteArray} {d : Dk} {m : Int} {J : Jn} {v : Value}
set_option maxRecDepth 100000 in
set_option maxHeartbeats 4000000 in
theorem jmay (h : Becomes F (JX p pb pd most ts d m J v) w W) {ao : Option Addr} {n cap : Nat} {es : List Ev} (hes : EsIn F w ao n es) (hk : 1 ≤ d.kept.length) (ho : d.Ok) (hn : J.all.length ≤ 1000000) (hm : 0 ≤ m) (hm2 : m ≤ 1000000) :
    Calls Tryz.prog 71 #[.pointer (some ⟨p, 0, none⟩), .slice ao n cap] W fun e w' => ∃ er, e = .returned er ∧ Er w' er (myN d m J es) ∧ Becomes F (JX p pb pd most ts d m J v) w w' := by
  obtain ⟨hlen0, hrow0, hfew0⟩ := hes
  subst hlen0
  obtain ⟨k0, k1, k2, k3, k4, k5, k6⟩ := JX.cells h
  have hg := JX_good p pb pd most ts d m J v
  cases hov : J.over with
  | true =>
    have e1 : myN d m J es = 1102 := by unfold myN; rw [hov]; rfl
    rw [e1]
    have HL := Lib.hid (fun W' hb => JX.lay h (W' := W') hb)
    rw [hov] at k6
    generalize J.boot = B at *
    clear h k0 k1 k3 k4 k5 e1
    go_enter Tryz.func71, Tryz.ntmps71
    go_wp2_with (go_at_call 92; (with_reducible refine (fltnew _ _ _ _ _).mono ?_); rintro e w1 ⟨rfl, rfl⟩)
    go_ret
    exact ⟨_, rfl, .inr ⟨by decide, _, rfl, by simp⟩, HL.out _ (balloc _ _)⟩
  | false =>
    rw [hov] at k6
    cases hd : d.down with
    | true =>
      have e1 : myN d m J es = 801 := by unfold myN; rw [hov, hd]; rfl
      rw [e1]
      have R0 := jread h 0
      rw [Dk.rd_down hd] at R0
      have R0 := Lib.hid R0
      clear h k0 k1 k2 k3 k4 k5 e1
      go_enter Tryz.func71, Tryz.ntmps71
      go_wp2_with (go_at_call 74; (with_reducible refine R0.out.mono ?_); rintro e w1 ⟨er, rfl, hE, h1⟩; obtain ⟨b, rfl⟩ := er_fault hE (by decide))
      go_ret
      exact ⟨_, rfl, hE, h1⟩
    | false =>
      have R0 := jread h 0
      have e0 : d.rdE 0 = 0 := (Dk.rd_up ho hd (i := 0) (by omega)).2
      rw [e0] at R0
      have R0 := Lib.hid R0
      have HN := Lib.hid (show myN d m J es = if es.all Ev.may = false then 700 else if m - J.all.length < es.length then 1101 else 0 by unfold myN; rw [hov, hd]; rfl)
      clear h k0 k1 k2 k3 k4 k5 e0
      go_enter Tryz.func71, Tryz.ntmps71
      go_wp2_with (go_at_call 74; (with_reducible refine R0.out.mono ?_); rintro e w1 ⟨er, rfl, hE, h1⟩; obtain rfl := er_nil hE; clear hE)
      go_loopw [30] (fun x wr => ∃ k : Nat, k ≤ es.length ∧ x = .int .i64 (k : Int) ∧ (∀ i, i < k → (es.getD i Ev.zero).may = true) ∧ Becomes F (JX p pb pd most ts d m J v) w wr) (fun x _ => es.length - (intOf x).toNat)
      case atStart => exact ⟨0, Nat.zero_le _, rfl, (fun i hi => by omega), h1⟩
      case round =>
        clear h1
        obtain ⟨k, hkn, rfl, hp, hS⟩ := hrel
        by_cases hlt : k < es.length
        · obtain ⟨bb, off, rfl, hrow, hbF, hbl⟩ : ∃ b off, ao = some ⟨b, off, none⟩ ∧ EsAt w b off es ∧ b ∉ F ∧ b < w.heap.size := by
            rcases hrow0 with c | c
            · omega
            · exact c
          have hrw : EsAt wr bb off es := hrow.same (hS.tn.block bb hbl hbF)
          obtain ⟨q0, q1, q2, q3, q4, q5, q6, q7⟩ := hrw.elem (j := k) (by omega)
          obtain ⟨x, hx⟩ : ∃ x, es.getD k Ev.zero = x := ⟨_, rfl⟩
          have HX := Lib.hid hx
          rw [hx] at q0 q1 q2 q3 q4 q5 q6 q7
          have HM := Lib.hid (fun w => (show Calls Tryz.prog 93 #[.agg #[.int .i64 x.kind, .int .i64 x.user, .int .i64 x.session, .int .i64 x.address, .int .i64 x.a, .int .i64 x.b, .int .i64 x.c, .int .i64 x.tick]] w (fun e w' => e = .returned (.bool x.may) ∧ Below w.heap.size w w') from epmay x w))
          have HL := Lib.hid (fun W' hb => hS.lay hg (w2 := W') hb)
          have HP := Lib.hid hp
          clear hp hrow hrw hx hS
          cases hm1 : x.may with
          | true =>
            rw [hm1] at HM
            go_wp2_with (go_at_call 93; (with_reducible refine (HM.out _).mono ?_); rintro e w2 ⟨rfl, hb⟩)
            have HB := Lib.hid (bon (balloc wr (.cells #[.int .i64 x.kind, .int .i64 x.user, .int .i64 x.session, .int .i64 x.address, .int .i64 x.a, .int .i64 x.b, .int .i64 x.c, .int .i64 x.tick] 61)) hb)
            go_round
            case rel =>
              refine ⟨k + 1, by omega, by go_num, fun i hi => ?_, HL.out _ HB.out⟩
              by_cases c : i < k
              · exact HP.out i c
              · obtain rfl : i = k := by omega
                rw [HX.out]; exact hm1
            case measure => simp [intOf]; omega
          | false =>
            rw [hm1] at HM
            go_wp2_with (first
              | (go_at_call 93; (with_reducible refine (HM.out _).mono ?_); rintro e w2 ⟨rfl, hb⟩)
              | (go_at_call 92; (with_reducible refine (fltnew _ _ _ _ _).mono ?_); rintro e w3 ⟨rfl, rfl⟩))
            go_ret
            have e7 : myN d m J es = 700 := by rw [HN.out, may_not (by omega) (by rw [HX.out]; exact hm1)]; rfl
            rw [e7]
            exact ⟨_, rfl, .inr ⟨by decide, _, rfl, by simp⟩, (HL.out _ (bon (balloc wr (.cells #[.int .i64 x.kind, .int .i64 x.user, .int .i64 x.session, .int .i64 x.address, .int .i64 x.a, .int .i64 x.b, .int .i64 x.c, .int .i64 x.tick] 61)) hb)).lay hg (balloc _ _)⟩
        · obtain rfl : k = es.length := by omega
          have HA := Lib.hid (may_upto hp rfl)
          have HR := Lib.hid (jroom hS hn hm hm2)
          have HL := Lib.hid (fun W' hb => hS.lay hg (w2 := W') hb)
          clear hp hS
          by_cases hrm : m - (J.all.length : Int) < es.length
          · go_wp2_with (first
              | (go_at_call 30; (with_reducible refine (HR.out).mono ?_); rintro e w2 ⟨rfl, hb⟩)
              | (go_at_call 92; (with_reducible refine (fltnew _ _ _ _ _).mono ?_); rintro e w3 ⟨rfl, rfl⟩))
            go_ret
            have e7 : myN d m J es = 1101 := by rw [HN.out, HA.out, if_neg (by decide), if_pos (by omega)]
            rw [e7]
            exact ⟨_, rfl, .inr ⟨by decide, _, rfl, by simp⟩, (HL.out _ hb).lay hg (balloc _ _)⟩
          · go_wp2_with (go_at_call 30; (with_reducible refine (HR.out).mono ?_); rintro e w2 ⟨rfl, hb⟩)
            go_ret
            have e7 : myN d m J es = 0 := by rw [HN.out, HA.out, if_neg (by decide), if_neg (by omega)]
            rw [e7]
            exact ⟨_, rfl, .inl ⟨rfl, rfl⟩, HL.out _ hb⟩
end
open Go Go.RowKit
theorem Becomes.under {P : Program} {A X X' : Ass} {f : FuncId} {args : Array Value} {R : Ending → World → Prop} (hA : A.Good) {F : List Nat} {w W : World} (h : Becomes F (A.star X) w W) (hc : ∀ F2, X W F2 → Calls P f args W fun e w' => R e w' ∧ Becomes F2 X' W w') : Calls P f args W fun e w' => R e w' ∧ Becomes F (A.star X') w w' := by
  obtain ⟨_, ⟨F1, F2, rfl, h1, h2, h3⟩, g2, g3⟩ := h
  refine (hc F2 h2).mono ?_
  rintro e w' ⟨he, hk⟩
  obtain ⟨F', k1, k2, k3⟩ := hk.frameR hA h1 h3
  refine ⟨he, F', k1, g2.trans k2 g3, fun k hk => ?_⟩
  rcases k3 k hk with c | c
  · exact g3 k c
  · exact .inr (Nat.le_trans g2.size c)
theorem wrAll_take {ss : List ByteArray} {k : Nat} (hk : k < ss.length) (d : Dk) (i : Nat) : wrAll d i (ss.take (k + 1)) = (wrAll d i (ss.take k)).wr ((i + k : Nat) : Int) (ss.getD k ⟨#[]⟩) := by
  induction ss generalizing d i k with
  | nil => simp at hk
  | cons s r ih =>
    cases k with
    | zero => simp [wrAll]
    | succ k =>
      simp only [List.take_succ_cons, wrAll, List.getD_cons_succ]
      rw [ih (by simpa using hk), show i + 1 + k = i + (k + 1) by omega]
theorem strs_at {C : Ass} {F : List Nat} {w W : World} {ao : Option Addr} {ss : List ByteArray} {cap : Nat} (h : Becomes F ((rowE 9 1 (.slice ao ss.length cap) ss.length (strs ss)).star C) w W) {k : Nat} (hk : k < ss.length) : ∃ g, ao = some ⟨g, 0, none⟩ ∧ W.cell? ⟨g, k, none⟩ = some (.string (ss.getD k ⟨#[]⟩)) := by
  have hr := h.erow
  rcases hr.2 with ⟨e, h0⟩ | ⟨g, c, cur, e, _⟩
  · omega
  · obtain ⟨rfl, _⟩ : ao = some ⟨g, 0, none⟩ ∧ cap = c := by simpa using e
    refine ⟨g, rfl, ?_⟩
    have hc := hr.cells (g := g) rfl k (.string (ss.getD k ⟨#[]⟩)) (by simp [strs, List.getD, hk])
    rw [Addr.add_lit, Nat.zero_add] at hc
    exact hc
section
variable {F : List Nat} {w W : World} {p pb pd : Nat} {most : Int} {ts : List ByteArray} {d : Dk} {m : Int} {J : Jn} {v : Value}
def JWr (F : List Nat) (p pb pd : Nat) (most : Int) (ts : List ByteArray) (d : Dk) (m : Int) (J : Jn) (v : Value) (es : List Ev) (w : World) (e : Ending) (w' : World) : Prop :=
  (∃ ss l', myN d m J es = 0 ∧ (jpGo most J.boot ts J.all.length J.last es).2 = some (ss, l') ∧ e = .returned (.tuple #[.int .i64 l', .nilIface]) ∧ Becomes F (JX p pb pd most (jpGo most J.boot ts J.all.length J.last es).1 (wrAll d (2 + J.all.length) ss) m J v) w w') ∨
  (myN d m J es ≠ 0 ∧ ∃ er, e = .returned (.tuple #[.int .i64 0, er]) ∧ Er w' er (myN d m J es) ∧ Becomes F (JX p pb pd most ts d m J v) w w') ∨
  (myN d m J es = 0 ∧ (jpGo most J.boot ts J.all.length J.last es).2 = none ∧ ∃ er, e = .returned (.tuple #[.int .i64 0, er]) ∧ Er w' er 900 ∧ Becomes F (JX p pb pd most (jpGo most J.boot ts J.all.length J.last es).1 d m J v) w w')
set_option maxRecDepth 100000 in
set_option maxHeartbeats 4000000 in
theorem jwrite (h : Becomes F (JX p pb pd most ts d m J v) w W) {ao : Option Addr} {n cap : Nat} {es : List Ev} (hes : EsIn F w ao n es) (ho : d.Ok) (hm : m = (d.kept.length : Int) - 2) (hk3 : 2 ≤ d.kept.length) (hl : ts.length + 1000 ≤ 1000000) (hw : d.waits.length + 1000 ≤ 1000000) (hn : 2 + J.all.length ≤ d.kept.length) :
    Calls Tryz.prog 51 #[.pointer (some ⟨p, 0, none⟩), .slice ao n cap] W (JWr F p pb pd most ts d m J v es w) := by
  have hmost := ho.most
  have hM := jmay (cap := cap) h hes (by omega) ho (by omega) (by omega) (by omega)
  have HF := Lib.hid (fun e w' (h : JWr F p pb pd most ts d m J v es w e w') => h)
  by_cases hN : myN d m J es = 0
  · have hroom : es.length + J.all.length + 2 ≤ d.kept.length := by
      unfold myN at hN
      split at hN
      · cases hN
      · split at hN
        · cases hN
        · split at hN
          · cases hN
          · split at hN
            · cases hN
            · omega
    have hup : d.down = false := by
      unfold myN at hN
      split at hN
      · cases hN
      · split at hN
        · cases hN
        · rename_i c; simpa using c
    have HC := Lib.hid (fun W (h : Becomes F (JX p pb pd most ts d m J v) w W) => jchain (cap := cap) h hes (by omega) (by omega))
    rw [hN] at hM
    have hM := Lib.hid hM
    have HN := Lib.hid hN
    clear h hN
    cases hz : (jpGo most J.boot ts J.all.length J.last es).2 with
    | none =>
      have HZ := Lib.hid hz
      have HC2 := Lib.hid (fun W h => (HC.out W h).mono (R' := fun e w' => ∃ er, e = .returned (.tuple #[.slice none 0 0, .int .i64 0, er]) ∧ Er w' er 900 ∧ Becomes F (JX p pb pd most (jpGo most J.boot ts J.all.length J.last es).1 d m J v) w w') fun e w' hj => by
        rcases hj with ⟨ss, l', vs, e1, _⟩ | ⟨_, hj⟩
        · rw [HZ.out] at e1; cases e1
        · exact hj)
      clear HC hz
      go_enter Tryz.func51, Tryz.ntmps51
      go_wp2_with (first
        | (go_at_call 71; (with_reducible refine hM.out.mono ?_); rintro e w1 ⟨er, rfl, hE, h1⟩; obtain rfl := er_nil hE; clear hE)
        | (go_at_call 72; (with_reducible refine (HC2.out _ h1).mono ?_); rintro e w2 ⟨er, rfl, hE, h2⟩; obtain ⟨b, rfl⟩ := er_fault hE (by decide)))
      go_ret2
      exact HF.out _ _ (.inr (.inr ⟨HN.out, HZ.out, _, rfl, hE, h2⟩))
    | some z =>
      obtain ⟨ss, l'⟩ := z
      have HZ := Lib.hid hz
      obtain ⟨c1, c2, _⟩ := jpGo_chain hz
      obtain ⟨T, hT⟩ : ∃ T, (jpGo most J.boot ts J.all.length J.last es).1 = T := ⟨_, rfl⟩
      have HT := Lib.hid hT
      have HC2 := Lib.hid (fun W h => (HC.out W h).mono (R' := fun e w' => ∃ a2 c2, e = .returned (.tuple #[.slice a2 ss.length c2, .int .i64 l', .nilIface]) ∧ Becomes F ((rowE 9 1 (.slice a2 ss.length c2) ss.length (strs ss)).star (JX p pb pd most T d m J v)) w w') fun e w' hj => by
        rcases hj with ⟨ss2, l2, vs, e1, e2, e3⟩ | ⟨e1, hj⟩
        · rw [HZ.out] at e1
          simp only [Option.some.injEq, Prod.mk.injEq] at e1
          obtain ⟨rfl, rfl⟩ := e1
          obtain ⟨a2, c2, rfl⟩ := rowE_shape e3.erow
          rw [HT.out] at e3
          exact ⟨a2, c2, e2, e3⟩
        · rw [HZ.out] at e1; cases e1)
      have hstep : ∀ k, k < ss.length → (wrAll d (2 + J.all.length) (ss.take k)).waits.length ≤ 1000000 ∧ (wrAll d (2 + J.all.length) (ss.take k)).wrE ((2 + J.all.length + k : Nat) : Int) (ss.getD k ⟨#[]⟩) = 0 := fun k hk => by
        obtain ⟨y1, y2, y3, y4⟩ := wrAll_yes (ss.take k) d (2 + J.all.length) hup (by rw [List.length_take]; omega) (fun s hs => c2 s (List.mem_of_mem_take hs))
        rw [List.length_take] at y4
        refine ⟨by omega, ?_⟩
        have hh : (wrAll d (2 + J.all.length) (ss.take k)).has ((2 + J.all.length + k : Nat) : Int) = true := (Dk.has_iff _ _).2 ⟨by omega, by rw [y1]; omega⟩
        unfold Dk.wrE
        rw [y2, hh, if_neg (by decide), decide_eq_true (getD_sz c2 hk)]
        rfl
      have HS := Lib.hid (fun k hk => (hstep k hk))
      have hg := JX_good p pb pd most T (wrAll d (2 + J.all.length) ss) m J v
      have hJl : J.all.length ≤ 256 := by omega
      have hsl : ss.length ≤ 256 := by omega
      clear HC hz hstep hT
      go_enter Tryz.func51, Tryz.ntmps51
      go_wp2_with (first
        | (go_at_call 71; (with_reducible refine hM.out.mono ?_); rintro e w1 ⟨er, rfl, hE, h1⟩; obtain rfl := er_nil hE; clear hE)
        | (go_at_call 72; (with_reducible refine (HC2.out _ h1).mono ?_); rintro e w2 ⟨a2, q2, rfl, h2⟩))
      clear HC2 hM h1
      go_loopw [31] (fun x wr => ∃ k : Nat, k ≤ ss.length ∧ x = .int .i64 (k : Int) ∧ Becomes F ((rowE 9 1 (.slice a2 ss.length q2) ss.length (strs ss)).star (JX p pb pd most T (wrAll d (2 + J.all.length) (ss.take k)) m J v)) w wr) (fun x _ => ss.length - (intOf x).toNat)
      case atStart => exact ⟨0, Nat.zero_le _, rfl, h2⟩
      case round =>
        clear h2
        obtain ⟨k, hkn, rfl, hS⟩ := hrel
        by_cases hlt : k < ss.length
        · obtain ⟨g, rfl, hcell⟩ := strs_at hS hlt
          obtain ⟨-, -, -, -, k4, -⟩ := JX.cells hS.drop
          obtain ⟨aj, cj, rfl⟩ := JX.shape hS.drop
          obtain ⟨s1, s2⟩ := HS.out k hlt
          have hput := Becomes.under (rowE_good _ _ _ _ _) hS (fun F2 h2 => (jput (Becomes.refl h2) s1 ((2 + J.all.length + k : Nat) : Int) (ss.getD k ⟨#[]⟩)).mono (R' := fun e w' => (∃ er, e = .returned er ∧ Er w' er ((wrAll d (2 + J.all.length) (ss.take k)).wrE ((2 + J.all.length + k : Nat) : Int) (ss.getD k ⟨#[]⟩))) ∧ Becomes F2 _ _ w') fun _ _ ⟨er, a, b, c⟩ => ⟨⟨er, a, b⟩, c⟩)
          rw [s2, ← wrAll_take hlt] at hput
          have hcast : ((2 + J.all.length + k : Nat) : Int) = 2 + (J.all.length : Int) + (k : Int) := by omega
          rw [hcast] at hput
          have HP := Lib.hid hput
          generalize ss.getD k ⟨#[]⟩ = S at *
          clear hput hS s1 s2 hcast
          go_wp2_with (go_at_call 73; (with_reducible refine HP.out.mono ?_); rintro e w3 ⟨⟨er, rfl, hE⟩, h3⟩; obtain rfl := er_nil hE; clear hE)
          go_round
          case rel => exact ⟨k + 1, by omega, by go_num, h3⟩
          case measure => simp [intOf]; omega
        · obtain rfl : k = ss.length := by omega
          rw [List.take_length] at hS
          go_wp2
          go_ret2
          exact HF.out _ _ (.inl ⟨ss, l', HN.out, HZ.out, rfl, by rw [HT.out]; exact hS.drop⟩)
  · have hM := Lib.hid hM
    have HN := Lib.hid hN
    have HE := Lib.hid (fun w v h => @er_fault w v _ h hN)
    clear h hN
    go_enter Tryz.func51, Tryz.ntmps51
    go_wp2_with (go_at_call 71; (with_reducible refine hM.out.mono ?_); rintro e w1 ⟨er, rfl, hE, h1⟩; obtain ⟨b, rfl⟩ := HE.out _ _ hE)
    go_ret2
    exact HF.out _ _ (.inr (.inl ⟨HN.out, _, rfl, hE, h1⟩))
end
open Go Go.RowKit
theorem app_ev {W w' : World} {ops : Array Oper} {rest : List Oper} {o : Oper} {a : Act} {Q : Exit → Act → World → Prop} {v u v' : Value} (hgd : o.guard = Option.none) (s x : Operand)
    (ho : o.op = .call { callee := .builtin .append, args := #[s, x], argTypes := #[36, 36] }) (hs : a.eval s = v) (hx : a.eval x = u) (hr : (Builtin.append_ #[36, 36] o.type #[v, u]).run Tryz.prog W = .ok v' w') (h : wpList Tryz.prog ops Q rest (a.put o.dst v') w') :
    wpList Tryz.prog ops Q (o :: rest) a W := Great.wpList_runTo hgd o.dst rfl _ _ (exec_append s x 36 ho hs hx hr) h
theorem my_jp {most : Int} {ts : List ByteArray} {d : Dk} {m : Int} {J : Jn} {es : List Ev} (hm : m = (d.kept.length : Int) - 2) :
    (myN d m J es ≠ 0 ∧ joN (myN d m J es) = jpE most ts J d es ∧ jpT most ts J d es = ts ∧ (myN d m J es = 700 ∨ myN d m J es = 801 ∨ myN d m J es = 1101 ∨ myN d m J es = 1102)) ∨
    (myN d m J es = 0 ∧ jpE most ts J d es = (if (jpGo most J.boot ts J.all.length J.last es).2.isSome then 0 else 1101) ∧ jpT most ts J d es = (jpGo most J.boot ts J.all.length J.last es).1 ∧ J.over = false ∧ d.down = false ∧ (es.length : Int) + J.all.length + 2 ≤ d.kept.length) := by
  subst hm
  cases a : J.over with
  | true =>
    have e1 : myN d ((d.kept.length : Int) - 2) J es = 1102 := by unfold myN; rw [a]; rfl
    have e2 : jpE most ts J d es = 1102 := by unfold jpE; rw [a]; rfl
    have e3 : jpT most ts J d es = ts := by unfold jpT; rw [a]; rfl
    rw [e1, e2, e3]
    exact .inl ⟨by decide, rfl, rfl, by decide⟩
  | false =>
    cases b : d.down with
    | true =>
      have e1 : myN d ((d.kept.length : Int) - 2) J es = 801 := by unfold myN; rw [a, b]; rfl
      have e2 : jpE most ts J d es = 1102 := by unfold jpE; rw [a, b]; rfl
      have e3 : jpT most ts J d es = ts := by unfold jpT; rw [a, b]; rfl
      rw [e1, e2, e3]
      exact .inl ⟨by decide, rfl, rfl, by decide⟩
    | false =>
      by_cases c : es.all Ev.may = false
      · have e1 : myN d ((d.kept.length : Int) - 2) J es = 700 := by unfold myN; rw [a, b, if_neg (by decide), if_neg (by decide), if_pos c]
        have e2 : jpE most ts J d es = 1100 := by unfold jpE; rw [a, b, if_neg (by decide), if_pos c]
        have e3 : jpT most ts J d es = ts := by unfold jpT; rw [a, b, if_neg (by decide), if_pos c]
        rw [e1, e2, e3]
        exact .inl ⟨by decide, rfl, rfl, by decide⟩
      · by_cases g : (d.kept.length : Int) - 2 - J.all.length < es.length
        · have e1 : myN d ((d.kept.length : Int) - 2) J es = 1101 := by unfold myN; rw [a, b, if_neg (by decide), if_neg (by decide), if_neg c, if_pos g]
          have e2 : jpE most ts J d es = 1101 := by unfold jpE; rw [a, b, if_neg (by decide), if_neg c, if_pos g]
          have e3 : jpT most ts J d es = ts := by unfold jpT; rw [a, b, if_neg (by decide), if_neg c, if_pos g]
          rw [e1, e2, e3]
          exact .inl ⟨by decide, rfl, rfl, by decide⟩
        · have e1 : myN d ((d.kept.length : Int) - 2) J es = 0 := by unfold myN; rw [a, b, if_neg (by decide), if_neg (by decide), if_neg c, if_neg g]
          have e2 : jpE most ts J d es = if (jpGo most J.boot ts J.all.length J.last es).2.isSome then 0 else 1101 := by unfold jpE; rw [a, b, if_neg (by decide), if_neg c, if_neg g]
          have e3 : jpT most ts J d es = (jpGo most J.boot ts J.all.length J.last es).1 := by unfold jpT; rw [a, b, if_neg (by decide), if_neg c, if_neg g]
          exact .inr ⟨e1, e2, e3, rfl, rfl, by omega⟩
theorem app_in {w : World} {v : Value} {es : List Ev} (ty : TypeId) (all : List Ev) (hown : w.ownsRow 0 TE 8 v all.length (ecells all)) {F : List Nat} {ao : Option Addr} {n cap : Nat} (hes : EsIn F w ao n es) (hc : ao = none → cap = 0) (hf : all.length + n ≤ 1000000) :
    ∃ v' w', (Builtin.append_ #[36, 36] ty #[v, .slice ao n cap]).run Tryz.prog w = .ok v' w' ∧ w'.ownsRow 0 TE 8 v' (all.length + n) (ecells all ++ ecells es) ∧ w.grownBy w' v.ownBlock ∧ (v' = .slice none 0 0 ↔ v = .slice none 0 0 ∧ n = 0) ∧ (v'.ownBlock = v.ownBlock ∨ v'.ownBlock = some w.heap.size) := by
  obtain ⟨hl, hr, _⟩ := hes
  cases ao with
  | none =>
    have hcap := hc rfl
    subst hcap
    rcases hr with rfl | ⟨b, off, e, _⟩
    · exact run_app_ev ty all hown none 0 0 hl (by omega) (.inl ⟨rfl, rfl, rfl⟩)
    · cases e
  | some a =>
    rcases hr with rfl | ⟨b, off, e, h1, _⟩
    · have hes : es = [] := List.length_eq_zero_iff.1 hl.symm
      subst hes
      obtain ⟨i, hi, hz0, hz1, hz2⟩ := info_parts infoEv
      exact run_append_own_at (P := Tryz.prog) w 0 36 ty TE i _ 8 64 Tryz.underlying36 hi hz0 hz1 hz2 rfl (by decide) v all.length (ecells all) hown a 0 cap [] rfl (fun j u hj => by simp at hj) (fun u hu => by cases hu) (by unfold maxLen; omega) (by omega) (Nat.zero_le _)
    · cases e
      exact run_app_ev ty all hown _ n cap hl (by omega) (.inr ⟨b, off, rfl, h1⟩)
section
variable {F : List Nat} {w W : World} {p pb pd : Nat} {most : Int} {ts : List ByteArray} {d : Dk} {m : Int} {J : Jn} {v : Value}
theorem JX.app (h : Becomes F (JX p pb pd most ts d m J v) w W) (hv : J.all = [] → v = .slice none 0 0) {ao : Option Addr} {n cap : Nat} {es : List Ev} (hes : EsIn F w ao n es) (hc : ao = none → cap = 0) (hf : J.all.length + n ≤ 1000000) :
    ∃ a2 c2 w', (Builtin.append_ #[36, 36] 36 #[v, .slice ao n cap]).run Tryz.prog W = .ok (.slice a2 (J.all.length + n) c2) w' ∧ Becomes F (JY p pb pd most ts d (jcs pb pd J.boot m v J.last J.over) (.slice a2 (J.all.length + n) c2) (J.all ++ es)) w w' ∧ (J.all ++ es = [] → Value.slice a2 (J.all.length + n) c2 = .slice none 0 0) := by
  obtain ⟨v', w', hr, hrow, hgr, hnil, hlo⟩ := app_in 36 J.all (JY.row h) (hes.tn h.tn) hc hf
  obtain ⟨a2, c2, rfl⟩ := rowE_shape hrow
  refine ⟨a2, c2, w', hr, JY.appended h hes.len hrow hgr (hlo.imp id fun e => ⟨_, Nat.le_refl _, e⟩), fun he => ?_⟩
  obtain ⟨h1, h2⟩ := List.append_eq_nil_iff.1 he
  exact hnil.2 ⟨hv h1, by rw [hes.len, h2]; rfl⟩
set_option maxHeartbeats 2000000 in
theorem jkeep_no (h : Becomes F (JX p pb pd most ts d m J v) w W) {ao : Option Addr} {n cap : Nat} {es : List Ev} (hes : EsIn F w ao n es) (ho : d.Ok) (hm : m = (d.kept.length : Int) - 2) (hk3 : 2 ≤ d.kept.length) (hl : ts.length + 1000 ≤ 1000000) (hw : d.waits.length + 1000 ≤ 1000000) (hn : 2 + J.all.length ≤ d.kept.length)
    (hE : jpE most ts J d es ≠ 0) :
    Calls Tryz.prog 48 #[.pointer (some ⟨p, 0, none⟩), .slice ao n cap] W fun e w' => ∃ N er, e = .returned er ∧ (N = 700 ∨ N = 801 ∨ N = 900 ∨ N = 1101 ∨ N = 1102) ∧ joN N = jpE most ts J d es ∧ Er w' er N ∧ Becomes F (JX p pb pd most (jpT most ts J d es) d m J v) w w' := by
  have hW := (jwrite (cap := cap) h hes ho hm hk3 hl hw hn).mono (R' := fun e w' => ∃ N er, e = .returned (.tuple #[.int .i64 0, er]) ∧ (N = 700 ∨ N = 801 ∨ N = 900 ∨ N = 1101 ∨ N = 1102) ∧ joN N = jpE most ts J d es ∧ Er w' er N ∧ Becomes F (JX p pb pd most (jpT most ts J d es) d m J v) w w') fun e w' hj => by
    rcases hj with ⟨ss, l', e1, e2, _⟩ | ⟨e1, er, e2, e3, e4⟩ | ⟨e1, e2, er, e3, e4, e5⟩ <;> rcases my_jp (most := most) (ts := ts) (es := es) (J := J) hm with ⟨g1, g2, g3, g4⟩ | ⟨g1, g2, g3, _⟩
    · exact absurd e1 g1
    · rw [e2] at g2
      exact absurd g2 hE
    · rw [g3]
      exact ⟨_, er, e2, by omega, g2, e3, e4⟩
    · exact absurd g1 e1
    · exact absurd e1 g1
    · rw [g2, g3, e2]
      exact ⟨900, er, e3, by decide, rfl, e4, e5⟩
  have HW := Lib.hid hW
  generalize jpT most ts J d es = T at *
  generalize jpE most ts J d es = E at *
  clear h hW hE
  go_enter Tryz.func48, Tryz.ntmps48
  go_wp2_with (go_at_call 51; (with_reducible refine HW.out.mono ?_); rintro e w1 ⟨N, er, rfl, hN, hNE, hEr, h1⟩; obtain ⟨b, rfl⟩ := er_fault hEr (by omega))
  go_ret
  exact ⟨N, _, rfl, hN, hNE, hEr, h1⟩
theorem jwrite_ok (h : Becomes F (JX p pb pd most ts d m J v) w W) {ao : Option Addr} {n cap : Nat} {es : List Ev} (hes : EsIn F w ao n es) (ho : d.Ok) (hm : m = (d.kept.length : Int) - 2) (hk3 : 2 ≤ d.kept.length) (hl : ts.length + 1000 ≤ 1000000) (hw : d.waits.length + 1000 ≤ 1000000) (hn : 2 + J.all.length ≤ d.kept.length)
    (hE : jpE most ts J d es = 0) :
    Calls Tryz.prog 51 #[.pointer (some ⟨p, 0, none⟩), .slice ao n cap] W fun e w' => e = .returned (.tuple #[.int .i64 (jpL most ts J es), .nilIface]) ∧ Becomes F (JX p pb pd most (jpT most ts J d es) (wtD most ts J d es) m J v) w w' := by
  refine (jwrite (cap := cap) h hes ho hm hk3 hl hw hn).mono fun e w' hj => ?_
  rcases hj with ⟨ss, l', e1, e2, e3, e4⟩ | ⟨e1, er, e2, e3, e4⟩ | ⟨e1, e2, er, e3, e4, e5⟩ <;> rcases my_jp (most := most) (ts := ts) (es := es) (J := J) hm with ⟨g1, g2, g3, g4⟩ | ⟨g1, g2, g3, _⟩
  · exact absurd e1 g1
  · have k1 : jpL most ts J es = l' := by unfold jpL; rw [e2]; rfl
    have k2 : jpS most ts J es = ss := by unfold jpS; rw [e2]; rfl
    have k4 : wtD most ts J d es = wrAll d (2 + J.all.length) ss := by unfold wtD; rw [if_pos hE, k2]
    rw [k1, g3, k4]
    exact ⟨e3, e4⟩
  · rw [hE] at g2
    exfalso
    rcases g4 with c | c | c | c <;> rw [c] at g2 <;> exact absurd g2 (by decide)
  · exact absurd g1 e1
  · exact absurd e1 g1
  · rw [e2, hE] at g2
    exact absurd g2 (by decide)
set_option maxHeartbeats 4000000 in
theorem jkeep_ok (h : Becomes F (JX p pb pd most ts d m J v) w W) (hv : J.all = [] → v = .slice none 0 0) {ao : Option Addr} {n cap : Nat} {es : List Ev} (hes : EsIn F w ao n es) (hc : ao = none → cap = 0) (ho : d.Ok) (hm : m = (d.kept.length : Int) - 2) (hk3 : 2 ≤ d.kept.length) (hl : ts.length + 1000 ≤ 1000000) (hw : d.waits.length + 1000 ≤ 1000000) (hn : 2 + J.all.length ≤ d.kept.length)
    (hE : jpE most ts J d es = 0) :
    Calls Tryz.prog 48 #[.pointer (some ⟨p, 0, none⟩), .slice ao n cap] W fun e w' => e = .returned .nilIface ∧ Becomes F (JA p pb pd most (jpT most ts J d es) (apD most ts J d es) m (apJ most ts J d es)) w w' := by
  have hW := jwrite_ok (cap := cap) h hes ho hm hk3 hl hw hn hE
  have hmost := ho.most
  have hmj := my_jp (most := most) (ts := ts) (es := es) (J := J) hm
  rw [hE] at hmj
  have hgood : d.down = false ∧ (es.length : Int) + J.all.length + 2 ≤ d.kept.length ∧ (jpGo most J.boot ts J.all.length J.last es).2.isSome = true := by
    rcases hmj with ⟨_, g2, _, g4⟩ | ⟨_, g2, _, _, g5, g6⟩
    · exfalso
      rcases g4 with c | c | c | c <;> rw [c] at g2 <;> exact absurd g2 (by decide)
    · refine ⟨g5, g6, ?_⟩
      cases z : (jpGo most J.boot ts J.all.length J.last es).2.isSome
      · rw [z] at g2; exact absurd g2 (by decide)
      · rfl
  clear hmj
  obtain ⟨hup, hroom, hsome⟩ := hgood
  have hdown : (wtD most ts J d es).down = false := by
    unfold wtD
    rw [if_pos hE]
    obtain ⟨⟨ss, l'⟩, hz⟩ := Option.isSome_iff_exists.1 hsome
    obtain ⟨c1, c2, _⟩ := jpGo_chain hz
    have k2 : jpS most ts J es = ss := by unfold jpS; rw [hz]; rfl
    rw [k2]
    exact (wrAll_yes ss d _ hup (by omega) c2).2.1
  have eD : apD most ts J d es = (wtD most ts J d es).fl := by unfold apD wtD; rw [if_pos hE, if_pos hE]
  have eJ : apJ most ts J d es = ⟨J.boot, jpL most ts J es, J.all ++ es, J.over⟩ := by unfold apJ; rw [if_pos hE]
  have hfl : (wtD most ts J d es).flE = 0 := by unfold Dk.flE; rw [hdown]; rfl
  rw [eD, eJ]
  generalize jpT most ts J d es = T at *
  generalize wtD most ts J d es = D1 at *
  generalize jpL most ts J es = L at *
  have hFl := fun W (h : Becomes F (JX p pb pd most T D1 m J v) w W) => jflush h
  rw [hfl] at hFl
  have HA := Lib.hid (fun W (h : Becomes F (JX p pb pd most T D1.fl m J v) w W) => JX.app h hv hes hc (by have := hes.len; omega))
  obtain ⟨aj, cj, rfl⟩ := JX.shape h
  have HW := Lib.hid hW
  have HFl := Lib.hid hFl
  generalize D1.fl = D2 at *
  clear h hv hW hFl hE hdown eD eJ hfl hroom hup hsome
  go_enter Tryz.func48, Tryz.ntmps48
  go_wp2_with (first
    | (go_at_call 51; (with_reducible refine HW.out.mono ?_); rintro e w1 ⟨rfl, h1⟩)
    | (go_at_call 68; (with_reducible refine (HFl.out _ h1).mono ?_); rintro e w2 ⟨er, rfl, hEr, h2⟩; obtain rfl := er_nil hEr; obtain ⟨a2, c2, w3, hr, h3, hnil⟩ := HA.out _ h2; have k4 := (JX.cells h2).2.2.2.2.1; have j4 := h3.own.1 4; have g4 := h3.own.2.1 4; have h4 := JY.set h3 4 (.slice a2 (J.all.length + n) c2); have j5 := h4.own.1 5; have g5 := h4.own.2.1 5; have h5 := JY.set h4 5 (.int .i64 L); clear hEr)
    | (at_builtin; refine app_ev rfl _ _ rfl rfl rfl hr ?_))
  go_ret
  exact ⟨rfl, Becomes.hidv (v := .slice a2 (J.all.length + n) c2) h5 hnil⟩
end
open Go Go.RowKit
structure JOk (ts : List ByteArray) (d : Dk) (m : Int) (J : Jn) : Prop where
  ok : d.Ok
  m : m = (d.kept.length : Int) - 2
  two : 2 ≤ d.kept.length
  tl : ts.length + 1000 ≤ 1000000
  wl : d.waits.length + 1000 ≤ 1000000
  fit : 2 + J.all.length ≤ d.kept.length
theorem jerrno_nil (W : World) : Calls Tryz.prog 47 #[.nilIface] W fun e w' => e = .returned (.int .i64 0) ∧ W = w' := (jerrno (n := 0) (.inl ⟨rfl, rfl⟩) (.inl rfl)).mono fun _ _ h => h
section
variable {F : List Nat} {w W : World} {p pb pd : Nat} {most : Int} {ts : List ByteArray} {d : Dk} {m : Int} {J : Jn} {v : Value}
set_option maxHeartbeats 2000000 in
theorem jappend (h : Becomes F (JA p pb pd most ts d m J) w W) {ao : Option Addr} {n cap : Nat} {es : List Ev} (hes : EsIn F w ao n es) (hc : ao = none → cap = 0) (hb : JOk ts d m J) :
    Calls Tryz.prog 15 #[.pointer (some ⟨p, 0, none⟩), .slice ao n cap] W fun e w' => e = .returned (.int .i64 (jpE most ts J d es)) ∧ Becomes F (JA p pb pd most (jpT most ts J d es) (apD most ts J d es) m (apJ most ts J d es)) w w' := by
  obtain ⟨v, hv, h⟩ := h.exv
  by_cases hE : jpE most ts J d es = 0
  · have HK := Lib.hid (jkeep_ok (cap := cap) h hv hes hc hb.ok hb.m hb.two hb.tl hb.wl hb.fit hE)
    rw [hE]
    generalize jpT most ts J d es = T at *
    generalize apD most ts J d es = D at *
    generalize apJ most ts J d es = J2 at *
    clear h hv hes hc hb hE
    go_enter Tryz.func15, Tryz.ntmps15
    go_wp2_with (first
      | (go_at_call 48; (with_reducible refine HK.out.mono ?_); rintro e w1 ⟨rfl, h1⟩)
      | (go_at_call 47; (with_reducible refine (jerrno_nil _).mono ?_); rintro e w2 ⟨rfl, rfl⟩))
    go_ret
    exact ⟨rfl, h1⟩
  · have eD : apD most ts J d es = d := by unfold apD; rw [if_neg hE]
    have eJ : apJ most ts J d es = J := by unfold apJ; rw [if_neg hE]
    rw [eD, eJ]
    have HK := Lib.hid (jkeep_no (cap := cap) h hes hb.ok hb.m hb.two hb.tl hb.wl hb.fit hE)
    generalize jpT most ts J d es = T at *
    generalize jpE most ts J d es = E at *
    clear h hes hc hb hE eD eJ
    go_enter Tryz.func15, Tryz.ntmps15
    go_wp2_with (first
      | (go_at_call 48; (with_reducible refine HK.out.mono ?_); rintro e w1 ⟨N, er, rfl, hN, hNE, hEr, h1⟩)
      | (go_at_call 47; (with_reducible refine (jerrno hEr (by omega)).mono ?_); rintro e w2 ⟨rfl, rfl⟩))
    go_ret
    exact ⟨rfl, Becomes.hidv h1 hv⟩
theorem jwrite_no (h : Becomes F (JX p pb pd most ts d m J v) w W) {ao : Option Addr} {n cap : Nat} {es : List Ev} (hes : EsIn F w ao n es) (hb : JOk ts d m J) (hE : jpE most ts J d es ≠ 0) :
    Calls Tryz.prog 51 #[.pointer (some ⟨p, 0, none⟩), .slice ao n cap] W fun e w' => ∃ N er, e = .returned (.tuple #[.int .i64 0, er]) ∧ (N = 700 ∨ N = 801 ∨ N = 900 ∨ N = 1101 ∨ N = 1102) ∧ joN N = jpE most ts J d es ∧ Er w' er N ∧ Becomes F (JX p pb pd most (jpT most ts J d es) d m J v) w w' := by
  refine (jwrite (cap := cap) h hes hb.ok hb.m hb.two hb.tl hb.wl hb.fit).mono fun e w' hj => ?_
  rcases hj with ⟨ss, l', e1, e2, _⟩ | ⟨e1, er, e2, e3, e4⟩ | ⟨e1, e2, er, e3, e4, e5⟩ <;> rcases my_jp (most := most) (ts := ts) (es := es) (J := J) hb.m with ⟨g1, g2, g3, g4⟩ | ⟨g1, g2, g3, _⟩
  · exact absurd e1 g1
  · rw [e2] at g2
    exact absurd g2 hE
  · rw [g3]
    exact ⟨_, er, e2, by omega, g2, e3, e4⟩
  · exact absurd g1 e1
  · exact absurd e1 g1
  · rw [g2, g3, e2]
    exact ⟨900, er, e3, by decide, rfl, e4, e5⟩
set_option maxHeartbeats 2000000 in
theorem jwrit (h : Becomes F (JA p pb pd most ts d m J) w W) {ao : Option Addr} {n cap : Nat} {es : List Ev} (hes : EsIn F w ao n es) (hb : JOk ts d m J) :
    Calls Tryz.prog 18 #[.pointer (some ⟨p, 0, none⟩), .slice ao n cap] W fun e w' => e = .returned (.int .i64 (jpE most ts J d es)) ∧ Becomes F (JA p pb pd most (jpT most ts J d es) (wtD most ts J d es) m (wtJ most ts J d es)) w w' := by
  obtain ⟨v, hv, h⟩ := h.exv
  by_cases hE : jpE most ts J d es = 0
  · have HK := Lib.hid (jwrite_ok (cap := cap) h hes hb.ok hb.m hb.two hb.tl hb.wl hb.fit hE)
    have eJ : wtJ most ts J d es = ⟨J.boot, J.last, J.all, true⟩ := by unfold wtJ; rw [if_pos hE]
    rw [hE, eJ]
    generalize jpT most ts J d es = T at *
    generalize wtD most ts J d es = D at *
    generalize jpL most ts J es = L at *
    clear h hes hb hE eJ
    go_enter Tryz.func18, Tryz.ntmps18
    go_wp2_with (first
      | (go_at_call 51; (with_reducible refine HK.out.mono ?_); rintro e w1 ⟨rfl, h1⟩; have k6 := (JX.cells h1).2.2.2.2.2.2; have f6 := JX.frz h1 6; have h2 := JY.set h1 6 (.bool true))
      | (go_at_call 47; (with_reducible refine (jerrno_nil _).mono ?_); rintro e w2 ⟨rfl, rfl⟩))
    go_ret
    exact ⟨rfl, Becomes.hidv (v := v) h2 hv⟩
  · have eD : wtD most ts J d es = d := by unfold wtD; rw [if_neg hE]
    have eJ : wtJ most ts J d es = J := by unfold wtJ; rw [if_neg hE]
    rw [eD, eJ]
    have HK := Lib.hid (jwrite_no (cap := cap) h hes hb hE)
    generalize jpT most ts J d es = T at *
    generalize jpE most ts J d es = E at *
    clear h hes hb hE eD eJ
    go_enter Tryz.func18, Tryz.ntmps18
    go_wp2_with (first
      | (go_at_call 51; (with_reducible refine HK.out.mono ?_); rintro e w1 ⟨N, er, rfl, hN, hNE, hEr, h1⟩; obtain ⟨b, rfl⟩ := er_fault hEr (by omega))
      | (go_at_call 47; (with_reducible refine (jerrno hEr (by omega)).mono ?_); rintro e w2 ⟨rfl, rfl⟩))
    go_ret
    exact ⟨rfl, Becomes.hidv h1 hv⟩
theorem jroom1 (h : Becomes F (JA p pb pd most ts d m J) w W) (hb : JOk ts d m J) : Calls Tryz.prog 30 #[.pointer (some ⟨p, 0, none⟩)] W fun e w' => e = .returned (.int .i64 (m - J.all.length)) ∧ Becomes F (JA p pb pd most ts d m J) w w' := by
  obtain ⟨v, hv, h1⟩ := h.exv
  have := hb.ok.most
  have := hb.fit
  have := hb.m
  exact (jroom h1 (by omega) (by omega) (by omega)).mono fun _ _ ⟨a, b⟩ => ⟨a, h.lay (JA_good _ _ _ _ _ _ _ _) b⟩
set_option maxRecDepth 100000 in
theorem jclone (w : World) (v : Value) (es : List Ev) (hv : es = [] → v = .slice none 0 0) (hr : w.ownsRow 0 TE 8 v es.length (ecells es)) (hn : es.length ≤ 1000) :
    Calls Tryz.prog 55 #[v] w fun e w' => ∃ v', e = .returned v' ∧ (es = [] → v' = .slice none 0 0) ∧ Becomes [] (rowE TE 8 v' es.length (ecells es)) w w' := by
  by_cases he : es = []
  · have e1 := hv he
    subst e1
    subst he
    have hq := Lib.run_eql_slice_nil (P := Tryz.prog) w 36 61 none 0 0 0 0 Tryz.underlying36
    clear hr hv
    go_enter Tryz.func55, Tryz.ntmps55
    go_wp2
    go_ret
    exact ⟨_, rfl, fun _ => rfl, [], ⟨World.ownsRow_nil _ _ _ _, rfl⟩, Tn.refl _ _, fun k hk => by cases hk⟩
  · have hpos : 0 < es.length := List.length_pos_iff.2 he
    rcases hr.2 with ⟨_, h0⟩ | ⟨g, cap, cur, rfl, _, hg, _⟩
    · omega
    · have hglt : g < w.heap.size := by
        rcases Nat.lt_or_ge g w.heap.size with c | c
        · exact c
        · rw [Array.getElem?_eq_none c] at hg; cases hg
      have hat : EsAt w g 0 es := fun i u hu => by
        have := hr.cells (g := g) rfl i u hu
        rw [Addr.add_lit] at this
        exact this
      have hb1 := balloc w (.cells #[] TE)
      have hown : (w.alloc (.cells #[] TE)).ownsRow 0 TE 8 (.slice (some ⟨w.heap.size, 0, none⟩) 0 0) ([] : List Ev).length (ecells []) := ⟨rfl, .inr ⟨w.heap.size, 0, #[], rfl, Nat.zero_le _, heap_alloc_new w _, Nat.le_refl _, by decide, rfl, rfl⟩⟩
      obtain ⟨v', w2, hrun, hrow, hgr, hnil, hlo⟩ := run_app_ev (es := es) 36 [] hown (some ⟨g, 0, none⟩) es.length cap rfl (by simp; omega) (.inr ⟨g, 0, rfl, hat.same (hb1.block g hglt)⟩)
      have HR := Lib.hid hrun
      rw [List.length_nil, Nat.zero_add] at hrow
      have hfin : Becomes [] (rowE TE 8 v' es.length (ecells es)) w w2 := by
        refine ⟨_, ⟨by simpa [ecells] using hrow, rfl⟩, (Tn.refl [] w).alloc _ |>.grown hgr (fun k hk => .inr ?_), fun k hk => .inr ?_⟩
        · have : k = w.heap.size := by simpa [Value.ownBlock] using hk.symm
          omega
        · have hk' := Option.mem_toList.1 hk
          rcases hlo with c | c
          · rw [c] at hk'; have : k = w.heap.size := by simpa [Value.ownBlock] using hk'.symm
            omega
          · rw [c] at hk'; have : k = (w.alloc (.cells #[] TE)).heap.size := by simpa using hk'.symm
            rw [this]; simp
      have HF := Lib.hid hfin
      have hq := Lib.run_eql_slice_nil (P := Tryz.prog) w 36 61 (some ⟨g, 0, none⟩) es.length cap 0 0 Tryz.underlying36
      clear hr hv hat hown hrow hgr hnil hlo hfin hb1 hg hrun
      go_enter Tryz.func55, Tryz.ntmps55
      go_wp2_with (at_builtin; refine app_ev rfl _ _ rfl rfl rfl HR.out ?_)
      go_ret
      exact ⟨_, rfl, fun c => absurd c he, HF.out⟩
def JEv (F : List Nat) (A : Ass) (es : List Ev) (w : World) (e : Ending) (w' : World) : Prop := ∃ v, e = .returned v ∧ (es = [] → v = .slice none 0 0) ∧ Becomes F ((rowE TE 8 v es.length (ecells es)).star A) w w'
set_option maxRecDepth 100000 in
theorem jevents (h : Becomes F (JA p pb pd most ts d m J) w W) (hn : J.all.length ≤ 1000) : Calls Tryz.prog 26 #[.pointer (some ⟨p, 0, none⟩)] W (JEv F (JA p pb pd most ts d m J) J.all w) := by
  obtain ⟨v, hv, h1⟩ := h.exv
  obtain ⟨-, -, -, -, k4, -⟩ := JX.cells h1
  have HC := Lib.hid (jclone W v J.all hv (JY.row h1) hn)
  have HF := Lib.hid (fun v' w' (hb : Becomes [] (rowE TE 8 v' J.all.length (ecells J.all)) W w') => (show Becomes F ((rowE TE 8 v' J.all.length (ecells J.all)).star (JA p pb pd most ts d m J)) w w' from h.turn fun F1 hF1 => by
    obtain ⟨F', g1, g2, g3⟩ := hb.frameL (JA_good _ _ _ _ _ _ _ _) hF1 (fun k hk => by cases hk)
    exact ⟨F', g1, by simpa using g2, by simpa using g3⟩))
  obtain ⟨aj, cj, rfl⟩ := JX.shape h1
  clear h h1 hv hn
  go_enter Tryz.func26, Tryz.ntmps26
  go_wp2_with (go_at_call 55; (with_reducible refine HC.out.mono ?_); rintro e w1 ⟨v', rfl, hn, hb⟩)
  go_ret
  exact ⟨_, rfl, hn, HF.out _ _ hb⟩
end
end Go.Proofs.YtbfpfmidjdonjaaGreatDoor
