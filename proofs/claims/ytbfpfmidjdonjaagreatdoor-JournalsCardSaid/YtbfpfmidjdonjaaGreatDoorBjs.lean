/- Put together: Js1, Js2, Js3, Js4. Conditions: each theorem's own. -/
import Derived.Test.YtbfpfmidjdonjaaGreatDoorBgj
import Derived.Test.YtbfpfmidjdonjaaGreatDoorBjc
namespace Go.Proofs.YtbfpfmidjdonjaaGreatDoor
open Go Go.RowKit
def GO (q qb qd:Nat) (J:Jn):Ass:=fun w F => ∃ v,((ownA q (gcs qb qd J.over J.last J.boot v) TG).star (rowE TE 8 v J.all.length (ecells J.all))) w F
theorem GO_good (q qb qd:Nat) (J:Jn):(GO q qb qd J).Good:=by
  rintro w F ⟨v,h⟩
  obtain ⟨a,b⟩:=((ownA_good _ _ _).star (rowE_good _ _ _ _ _)) w F h
  exact ⟨a,fun w' hw'=>⟨v,b w' hw'⟩⟩
theorem GA.split (q qb qd:Nat) (most:Int) (ts:List ByteArray) (d:Dk) (J:Jn):(GA q qb qd most ts d J).imp ((RB qb qd most ts d).star (GO q qb qd J)):=by
  rintro w F ⟨v,h⟩
  obtain ⟨F2,⟨G1,G2,rfl,g1,g2,g3⟩,e⟩:=(Ass.imp.assoc _ _ _) w F h
  exact ⟨G2++G1,⟨G2,G1,rfl,g2,⟨v,g1⟩,fun k hk hk'=>g3 k hk' hk⟩,fun k=>(by simp [or_comm]:k ∈ G2++G1 ↔ k ∈ G1++G2).trans (e k)⟩
theorem GA.join (q qb qd:Nat) (most:Int) (ts:List ByteArray) (d:Dk) (J:Jn):((RB qb qd most ts d).star (GO q qb qd J)).imp (GA q qb qd most ts d J):=by
  rintro w F ⟨G2,G1,rfl,g2,⟨v,g1⟩,g3⟩
  obtain ⟨F2,h2,e⟩:=(Ass.imp.assoc' _ _ _) w (G1++G2) ⟨G1,G2,rfl,g1,g2,fun k hk hk'=>g3 k hk' hk⟩
  exact ⟨F2,⟨v,h2⟩,fun k=>(e k).trans (by simp [or_comm])⟩
theorem esin_low {w0 w:World} {F:List Nat} {ao:Option Addr} {n:Nat} {es:List Ev} (h:EsIn [] w0 ao n es) (hb:Below w0.heap.size w0 w) (hF : ∀ k ∈ F,w0.heap.size<=k):EsIn F w ao n es:=by
  refine ⟨h.len, ?_,h.few⟩
  rcases h.row with c | ⟨b,off,e,h1,_,h3⟩
  · exact .inl c
  · exact .inr ⟨b,off,e,h1.same (hb.block b h3),fun c=>by have:=hF b c; omega,Nat.lt_of_lt_of_le h3 hb.size⟩
section
variable {w0 w:World} {C:Ass} {p pb pd q qb qd:Nat} {most:Int} {ts:List ByteArray} {d:Dk} {m:Int} {J:Jn}
theorem At.fuseG (h:At w0 ((RB qb qd most ts d).star ((GO q qb qd J).star C)) w):At w0 ((GA q qb qd most ts d J).star C) w:=h.imp ((Ass.imp.assoc _ _ _).trans ((GA.join _ _ _ _ _ _ _).left _))
theorem At.partG (h:At w0 ((GA q qb qd most ts d J).star C) w):At w0 ((RB qb qd most ts d).star ((GO q qb qd J).star C)) w:=h.imp (((GA.split _ _ _ _ _ _ _).left _).trans (Ass.imp.assoc' _ _ _))
theorem glopen (hC:C.Good) (h:At w0 ((RB qb qd most ts d).star C) w) (ho:d.Ok) (hl:ts.length<=1000000) (hn:d.waits.length<=1000000) (hE:joE most ts d=0) :
    Calls Tryz.prog 46 #[.pointer (some ⟨qb,0,none⟩), .pointer (some ⟨qd,0,none⟩)] w fun e w' => ∃ q:Nat,e = .returned (.tuple #[.pointer (some ⟨q,0,none⟩), .int .i64 0])/\At w0 ((RB qb qd most (joT most ts d) (joD most ts d)).star ((GO q qb qd (joJ most ts d)).star C)) w':=by
  refine (At.jopb (X':=fun q=>GA q qb qd most (joT most ts d) (joD most ts d) (joJ most ts d)) (R:=fun q e _=>e = .returned (.tuple #[.pointer (some ⟨q,0,none⟩), .int .i64 0])) hC (RB_good _ _ _ _ _) h (Below.refl _ _) fun _ _ h1 _ _ _=>(gopen (Becomes.refl h1) ho hl hn).mono fun e w' hj => ?_).mono fun e w' ⟨q,he,hA⟩=>⟨q,he,hA.partG⟩
  rcases hj with ⟨_,q,he,hb⟩ | ⟨hne,_⟩
  · exact ⟨q,he,hb⟩
  · exact absurd hE hne
theorem glopen_no (hC:C.Good) (h:At w0 ((RB qb qd most ts d).star C) w) (ho:d.Ok) (hl:ts.length<=1000000) (hn:d.waits.length<=1000000) (hE:joE most ts d≠0) :
    Calls Tryz.prog 46 #[.pointer (some ⟨qb,0,none⟩), .pointer (some ⟨qd,0,none⟩)] w fun e w'=>e = .returned (.tuple #[.pointer none, .int .i64 (joE most ts d)])/\At w0 ((RB qb qd most (joT most ts d) d).star C) w':=by
  refine At.jop (R:=fun e _=>e = .returned (.tuple #[.pointer none, .int .i64 (joE most ts d)])) hC (RB_good _ _ _ _ _) h fun _ _ h1 _ _ _=>(gopen (Becomes.refl h1) ho hl hn).mono fun e w' hj => ?_
  rcases hj with ⟨h0,_⟩ | ⟨_,he,hb⟩
  · exact absurd h0 hE
  · exact ⟨he,hb⟩
theorem glapp (hC:C.Good) (h:At w0 ((RB qb qd most ts d).star ((GO q qb qd J).star C)) w) {ao:Option Addr} {n cap:Nat} {es:List Ev} (hes:EsIn [] w0 ao n es) (hc:ao=none->cap=0) (hb:JOk ts d m J) :
    Calls Tryz.prog 17 #[.pointer (some ⟨q,0,none⟩), .slice ao n cap] w fun e w'=>e = .returned (.int .i64 (jpE most ts J d es))/\At w0 ((RB qb qd most (jpT most ts J d es) (apD most ts J d es)).star ((GO q qb qd (apJ most ts J d es)).star C)) w' :=
  (At.jop (X':=GA q qb qd most (jpT most ts J d es) (apD most ts J d es) (apJ most ts J d es)) (R:=fun e _=>e = .returned (.int .i64 (jpE most ts J d es))) hC (GA_good _ _ _ _ _ _ _) h.fuseG fun _ _ ⟨_,h1⟩ _ _ h4=>gapp (Becomes.refl h1) (esin_low hes h.bel h4) hc hb).mono fun _ _ ⟨he,hA⟩=>⟨he,hA.partG⟩
theorem glwrt (hC:C.Good) (h:At w0 ((RB qb qd most ts d).star ((GO q qb qd J).star C)) w) {ao:Option Addr} {n cap:Nat} {es:List Ev} (hes:EsIn [] w0 ao n es) (hb:JOk ts d m J) :
    Calls Tryz.prog 19 #[.pointer (some ⟨q,0,none⟩), .slice ao n cap] w fun e w'=>e = .returned (.int .i64 (jpE most ts J d es))/\At w0 ((RB qb qd most (jpT most ts J d es) (wtD most ts J d es)).star ((GO q qb qd (wtJ most ts J d es)).star C)) w' :=
  (At.jop (X':=GA q qb qd most (jpT most ts J d es) (wtD most ts J d es) (wtJ most ts J d es)) (R:=fun e _=>e = .returned (.int .i64 (jpE most ts J d es))) hC (GA_good _ _ _ _ _ _ _) h.fuseG fun _ _ ⟨_,h1⟩ _ _ h4=>gwrt (cap:=cap) (Becomes.refl h1) (esin_low hes h.bel h4) hb).mono fun _ _ ⟨he,hA⟩=>⟨he,hA.partG⟩
theorem glroom (h:At w0 ((RB qb qd most ts d).star ((GO q qb qd J).star C)) w) (hb:JOk ts d m J) :
    Calls Tryz.prog 31 #[.pointer (some ⟨q,0,none⟩)] w fun e w'=>e = .returned (.int .i64 (m - J.all.length))/\Below w.heap.size w w':=by
  obtain ⟨F,⟨F1,F2,rfl,⟨v,h1⟩,_,_⟩,_,_⟩:=h.fuseG
  have:=hb.fit
  have:=hb.ok.most
  refine (groom (Becomes.refl h1) (by omega)).mono fun e w' ⟨a,b⟩=>⟨?_,b⟩
  rw [a,hb.m]
theorem gldisk {f:FuncId} {args:Array Value} {u:Ending} {d':Dk} (hC:C.Good) (hd:Does Tryz.prog (dkA TR qd d) f args u (dkA TR qd d')) (h:At w0 ((RB qb qd most ts d).star C) w):Calls Tryz.prog f args w fun e w'=>e=u/\At w0 ((RB qb qd most ts d').star C) w' :=
  At.jop (X':=RB qb qd most ts d') (R:=fun e _=>e=u) hC (RB_good _ _ _ _ _) h fun _ _ h1 _ _ _=>RB.disk hd (Becomes.refl h1)
theorem RB.known (h:At w0 ((RB qb qd most ts d).star C) w):d.Ok/\(ts.length:Int)<=most/\most<=65536:=by
  obtain ⟨_,⟨_,_,_,⟨_,_,_,⟨_,hr,_⟩,⟨_,_,_,⟨_,_,_,hi,_⟩,_⟩,_⟩,_⟩,_⟩:=h
  exact ⟨hi.ok,hr.lm,hr.m2⟩
theorem At.openG (h:At w0 ((GO q qb qd J).star C) w) : ∃ ao cap,At w0 ((ownA q (gcs qb qd J.over J.last J.boot (.slice ao J.all.length cap)) TG).star ((rowE TE 8 (.slice ao J.all.length cap) J.all.length (ecells J.all)).star C)) w:=by
  obtain ⟨F,⟨F1,F2,rfl,⟨v,h1⟩,h2,h3⟩,hB,hb⟩:=h
  obtain ⟨ao,cap,rfl⟩ : ∃ ao cap,v = .slice ao J.all.length cap:=by
    obtain ⟨_,_,_,_,⟨h,_⟩,_⟩:=h1
    exact rowE_shape h
  obtain ⟨F',g,e⟩:=(Ass.imp.assoc' _ _ _) w (F1++F2) ⟨F1,F2,rfl,h1,h2,h3⟩
  exact ⟨ao,cap,F',g,fun k hk=>hB k ((e k).1 hk),hb⟩
theorem At.shutG {v:Value} (h:At w0 ((ownA q (gcs qb qd J.over J.last J.boot v) TG).star ((rowE TE 8 v J.all.length (ecells J.all)).star C)) w):At w0 ((GO q qb qd J).star C) w:=by
  have h2:=h.imp (Ass.imp.assoc _ _ _)
  obtain ⟨F,⟨F1,F2,rfl,h1,g2,g3⟩,hB,hb⟩:=h2
  exact ⟨F1++F2,⟨F1,F2,rfl,⟨v,h1⟩,g2,g3⟩,hB,hb⟩
theorem esin_rowB {F FC:List Nat} {w:World} {ao:Option Addr} {cap:Nat} {es:List Ev} {D:Ass} (h:((rowE TE 8 (.slice ao es.length cap) es.length (ecells es)).star D) w FC) (hd : ∀ k ∈ F,k ∉ FC) (hn:es.length<=140737488355328):EsIn F w ao es.length es:=by
  obtain ⟨F1,F2,rfl,⟨h1,rfl⟩,_,_⟩:=h
  rcases h1.2 with ⟨e,h0⟩ | ⟨g,c,cur,e,_,hg,_⟩
  · exact ⟨rfl, .inl h0,hn⟩
  · obtain ⟨rfl,rfl⟩:ao=some ⟨g,0,none⟩/\cap=c:=by simpa using e
    have hlt:g<w.heap.size:=by
      rcases Nat.lt_or_ge g w.heap.size with c | c
      · exact c
      · rw [Array.getElem?_eq_none c] at hg; cases hg
    refine ⟨rfl, .inr ⟨g,0,rfl,fun i u hu => ?_,fun c=>hd g c (by simp [Value.ownBlock]),hlt⟩,hn⟩
    have:=h1.cells (g:=g) rfl i u hu
    rw [Addr.add_lit] at this
    exact this
theorem esin_pre {F FC:List Nat} {D:Ass} {g cap:Nat} {es fs:List Ev} (h:((rowE TE 8 (.slice (some ⟨g,0,none⟩) (es++fs).length cap) (es++fs).length (ecells (es++fs))).star D) w FC) (hd : ∀ k ∈ F,k ∉ FC) (hn:(es++fs).length<=2199023255552):EsIn F w (some ⟨g,0,none⟩) es.length es:=by
  have h1:=esin_rowB h hd (by omega)
  rw [List.length_append] at hn
  refine ⟨rfl, ?_,by omega⟩
  rcases h1.row with c | ⟨b,off,e,k1,k2,k3⟩
  · rw [List.length_append] at c; exact .inl (by omega)
  · refine .inr ⟨b,off,e,fun i u hu=>k1 i u ?_,k2,k3⟩
    rw [ecells_app,List.getElem?_append_left (by rcases Nat.lt_or_ge i (ecells es).length with c | c; exact c; rw [List.getElem?_eq_none c] at hu; cases hu)]
    exact hu
theorem jlappL {D:Ass} (hD:D.Good) {g cap cap2:Nat} {es fs:List Ev} (h:At w0 ((BD pb pd most ts d).star ((JO p pb pd m J).star ((rowE TE 8 (.slice (some ⟨g,0,none⟩) (es++fs).length cap) (es++fs).length (ecells (es++fs))).star D))) w) (hb:JOk ts d m J) (hn:(es++fs).length<=2199023255552) :
    Calls Tryz.prog 15 #[.pointer (some ⟨p,0,none⟩), .slice (some ⟨g,0,none⟩) es.length cap2] w fun e w'=>e = .returned (.int .i64 (jpE most ts J d es))/\At w0 ((BD pb pd most (jpT most ts J d es) (apD most ts J d es)).star ((JO p pb pd m (apJ most ts J d es)).star ((rowE TE 8 (.slice (some ⟨g,0,none⟩) (es++fs).length cap) (es++fs).length (ecells (es++fs))).star D))) w' :=
  (At.jop (X':=JA p pb pd most (jpT most ts J d es) (apD most ts J d es) m (apJ most ts J d es)) (R:=fun e _=>e = .returned (.int .i64 (jpE most ts J d es))) ((rowE_good _ _ _ _ _).star hD) (JA_good _ _ _ _ _ _ _ _) h.fuse fun _ _ h1 h2 h3 _=>jappend (Becomes.refl h1) (esin_pre h2 h3 hn) (fun c=>by cases c) hb).mono fun _ _ ⟨he,hA⟩=>⟨he,hA.part⟩
theorem jlwrtL {D:Ass} (hD:D.Good) {g cap cap2:Nat} {es fs:List Ev} (h:At w0 ((BD pb pd most ts d).star ((JO p pb pd m J).star ((rowE TE 8 (.slice (some ⟨g,0,none⟩) (es++fs).length cap) (es++fs).length (ecells (es++fs))).star D))) w) (hb:JOk ts d m J) (hn:(es++fs).length<=2199023255552) :
    Calls Tryz.prog 18 #[.pointer (some ⟨p,0,none⟩), .slice (some ⟨g,0,none⟩) es.length cap2] w fun e w'=>e = .returned (.int .i64 (jpE most ts J d es))/\At w0 ((BD pb pd most (jpT most ts J d es) (wtD most ts J d es)).star ((JO p pb pd m (wtJ most ts J d es)).star ((rowE TE 8 (.slice (some ⟨g,0,none⟩) (es++fs).length cap) (es++fs).length (ecells (es++fs))).star D))) w' :=
  (At.jop (X':=JA p pb pd most (jpT most ts J d es) (wtD most ts J d es) m (wtJ most ts J d es)) (R:=fun e _=>e = .returned (.int .i64 (jpE most ts J d es))) ((rowE_good _ _ _ _ _).star hD) (JA_good _ _ _ _ _ _ _ _) h.fuse fun _ _ h1 h2 h3 _=>jwrit (cap:=cap2) (Becomes.refl h1) (esin_pre h2 h3 hn) hb).mono fun _ _ ⟨he,hA⟩=>⟨he,hA.part⟩
theorem opened_yes (hC:C.Good) (hg:Gd w0) (h:At w0 ((BD pb pd most ts d).star ((RB qb qd most ts d).star C)) w) (ho:d.Ok) (hl:ts.length<=1000000) (hn:d.waits.length<=1000000) (hE:joE most ts d=0) :
    Calls Tryz.prog 13 #[.pointer (some ⟨pb,0,none⟩), .pointer (some ⟨qb,0,none⟩), .pointer (some ⟨pd,0,none⟩), .pointer (some ⟨qd,0,none⟩)] w fun e w' => ∃ p q:Nat,e = .returned (.tuple #[.pointer (some ⟨p,0,none⟩), .pointer (some ⟨q,0,none⟩), .bool true]) ∧
      At w0 ((BD pb pd most (joT most ts d) (joD most ts d)).star ((JO p pb pd ((d.kept.length - 2:Nat):Int) (joJ most ts d)).star ((RB qb qd most (joT most ts d) (joD most ts d)).star ((GO q qb qd (joJ most ts d)).star C)))) w':=by
  have HP:=Lib.hid (jlopen ((RB_good _ _ _ _ _).star hC) hg h ho hl hn hE)
  have HQ:=Lib.hid (fun p W (h:At w0 ((BD pb pd most (joT most ts d) (joD most ts d)).star ((JO p pb pd ((d.kept.length - 2:Nat):Int) (joJ most ts d)).star ((RB qb qd most ts d).star C))) W)=>(glopen ((BD_good _ _ _ _ _).star ((JO_good _ _ _ _ _).star hC)) (h.imp (Ass.imp.up2 _ _ _ _)) ho hl hn hE).mono (R':=fun e w' => ∃ q:Nat,e = .returned (.tuple #[.pointer (some ⟨q,0,none⟩), .int .i64 0])/\At w0 ((BD pb pd most (joT most ts d) (joD most ts d)).star ((JO p pb pd ((d.kept.length - 2:Nat):Int) (joJ most ts d)).star ((RB qb qd most (joT most ts d) (joD most ts d)).star ((GO q qb qd (joJ most ts d)).star C)))) w') fun e w' ⟨q,a,b⟩=>⟨q,a,b.imp ((Ass.imp.up2 _ _ _ _).trans ((Ass.imp.up2 _ _ _ _).under _))⟩)
  generalize joT most ts d=T at *
  generalize joD most ts d=D at *
  generalize joJ most ts d=J at *
  clear h ho hl hn hE hg
  go_enter Tryz.func13,Tryz.ntmps13
  go_wp2_with (first
    | (go_at_call 34; (with_reducible refine HP.out.mono ?_); rintro e w1 ⟨p,rfl,h1⟩)
    | (go_at_call 46; (with_reducible refine (HQ.out _ _ h1).mono ?_); rintro e w2 ⟨q,rfl,h2⟩)
    | (go_at_call 16; (with_reducible refine (lnum _ _).mono ?_); rintro e w9 ⟨rfl,rfl⟩))
  go_ret3
  exact ⟨p,q,rfl,h2⟩
theorem opened_no (hC:C.Good) (hg:Gd w0) (h:At w0 ((BD pb pd most ts d).star ((RB qb qd most ts d).star C)) w) (ho:d.Ok) (hl:ts.length<=1000000) (hn:d.waits.length<=1000000) (hE:joE most ts d≠0) :
    Calls Tryz.prog 13 #[.pointer (some ⟨pb,0,none⟩), .pointer (some ⟨qb,0,none⟩), .pointer (some ⟨pd,0,none⟩), .pointer (some ⟨qd,0,none⟩)] w fun e w'=>e = .returned (.tuple #[.pointer none, .pointer none, .bool true]) ∧
      At w0 ((BD pb pd most (joT most ts d) d).star ((RB qb qd most (joT most ts d) d).star C)) w':=by
  have HP:=Lib.hid (jlopen_no ((RB_good _ _ _ _ _).star hC) hg h ho hl hn hE)
  have HQ:=Lib.hid (fun W (h:At w0 ((BD pb pd most (joT most ts d) d).star ((RB qb qd most ts d).star C)) W)=>(glopen_no ((BD_good _ _ _ _ _).star hC) (h.imp (Ass.imp.swap _ _ _)) ho hl hn hE).mono (R':=fun e w'=>e = .returned (.tuple #[.pointer none, .int .i64 (joE most ts d)])/\At w0 ((BD pb pd most (joT most ts d) d).star ((RB qb qd most (joT most ts d) d).star C)) w') fun e w' ⟨a,b⟩=>⟨a,b.imp (Ass.imp.swap _ _ _)⟩)
  generalize joT most ts d=T at *
  generalize joE most ts d=E at *
  have hE':(E != 0)=true:=by simpa using hE
  clear h ho hl hn hg
  go_enter Tryz.func13,Tryz.ntmps13
  go_wp2_with (first
    | (go_at_call 34; (with_reducible refine HP.out.mono ?_); rintro e w1 ⟨rfl,h1⟩)
    | (go_at_call 46; (with_reducible refine (HQ.out _ h1).mono ?_); rintro e w2 ⟨rfl,h2⟩)
    | (go_at_call 16; (with_reducible refine (lnum _ _).mono ?_); rintro e w9 ⟨rfl,rfl⟩))
  go_ret3
  exact ⟨rfl,h2⟩
end
open Go Go.RowKit
abbrev mkEv:Ev:=⟨0,0,0,0,0,0,0,77777⟩
abbrev mks:List Ev:=[mkEv,mkEv]
theorem run_app_evB {w:World} {v:Value} {es:List Ev} (ty:TypeId) (all:List Ev) (hown:w.ownsRow 0 TE 8 v all.length (ecells all)) (ao:Option Addr) (k c:Nat) (hk:k=es.length) (hf:all.length+k<=2199023255552) (hc:(ao=none/\k=0/\c=0) ∨ ∃ b off,ao=some ⟨b,off,none⟩/\EsAt w b off es) :
    ∃ v' w',(Builtin.append_ #[36,36] ty #[v, .slice ao k c]).run Tryz.prog w = .ok v' w'/\w'.ownsRow 0 TE 8 v' (all.length+k) (ecells all++ecells es)/\w.grownBy w' v.ownBlock/\(v' = .slice none 0 0 ↔ v = .slice none 0 0/\k=0)/\(v'.ownBlock=v.ownBlock\/v'.ownBlock=some w.heap.size):=by
  obtain ⟨i,hi,hz0,hz1,hz2⟩:=info_parts infoEv
  rcases hc with ⟨rfl,rfl,rfl⟩ | ⟨b,off,rfl,he⟩
  · have hes:es=[]:=List.length_eq_zero_iff.1 hk.symm
    subst hes
    refine ⟨v,w,run_append_owned_none (P:=Tryz.prog) (w:=w) 0 36 ty TE i 8 Tryz.underlying36 hi v _ _ hown, ?_,World.grownBy.refl _ _,by simp, .inl rfl⟩
    simpa [ecells] using hown
  · exact run_append_own_at (P:=Tryz.prog) w 0 36 ty TE i _ 8 64 Tryz.underlying36 hi hz0 hz1 hz2 rfl (by decide) v all.length (ecells all) hown ⟨b,off,none⟩ k c (ecells es) (by rw [ecells_len,hk]) (fun j u hj=>by rw [Addr.add_lit]; exact he j u hj) (ecells_one es) (by unfold maxLen; omega) (by omega) (Nat.zero_le _)
theorem lcopyB {w : World} {ao : Option Addr} {n cap : Nat} {es : List Ev} (hes : EsIn [] w ao n es) (hc : ao = none → cap = 0) (hn : n ≤ 2199023255488) :
    Calls Tryz.prog 35 #[.slice ao n cap] w fun e w' => ∃ a2 c2,e = .returned (.slice a2 n c2)/\Becomes [] (rowE TE 8 (.slice a2 es.length c2) es.length (ecells es)) w w':=by
  have hown:(w.alloc (.cells #[] TE)).ownsRow 0 TE 8 (.slice (some ⟨w.heap.size,0,none⟩) 0 0) ([]:List Ev).length (ecells []):=⟨rfl, .inr ⟨w.heap.size,0, #[],rfl,Nat.zero_le _,heap_alloc_new w _,Nat.le_refl _,by decide,rfl,rfl⟩⟩
  have hes2:=hes.tn ((Tn.refl [] w).alloc (.cells #[] TE))
  obtain ⟨v',w2,hrun,hrow,hgr,hlo⟩ : ∃ v' w',(Builtin.append_ #[36,36] 36 #[.slice (some ⟨w.heap.size,0,none⟩) 0 0, .slice ao n cap]).run Tryz.prog (w.alloc (.cells #[] TE)) = .ok v' w'/\w'.ownsRow 0 TE 8 v' n (ecells es)/\(w.alloc (.cells #[] TE)).grownBy w' (some w.heap.size)/\(v'.ownBlock=some w.heap.size\/v'.ownBlock=some (w.alloc (.cells #[] TE)).heap.size):=by
    rcases hes2.row with c | ⟨b,off,e,h1,_⟩
    · have he:es=[]:=List.length_eq_zero_iff.1 (by rw [<-hes.len,c])
      subst he
      cases ao with
      | none =>
        obtain ⟨v',w',k1,k2,k3,k4,k5⟩:=run_app_evB (es:=[]) 36 [] hown none n cap (by rw [c]; rfl) (by simp; omega) (.inl ⟨rfl,c,hc rfl⟩)
        exact ⟨v',w',k1,by simpa [c,ecells] using k2,k3,k5⟩
      | some a =>
        obtain ⟨i,hi,hz0,hz1,hz2⟩:=info_parts infoEv
        obtain ⟨v',w',k1,k2,k3,k4,k5⟩:=run_append_own_at (P:=Tryz.prog) (w.alloc (.cells #[] TE)) 0 36 36 TE i _ 8 64 Tryz.underlying36 hi hz0 hz1 hz2 rfl (by decide) (.slice (some ⟨w.heap.size,0,none⟩) 0 0) _ (ecells []) hown a n cap [] (by rw [c]; rfl) (fun j u hj=>by simp at hj) (fun u hu=>by cases hu) (by unfold maxLen; simp; omega) (by simp; omega) (Nat.zero_le _)
        exact ⟨v',w',k1,by simpa [c,ecells] using k2,k3,k5⟩
    · obtain ⟨v',w',k1,k2,k3,k4,k5⟩:=run_app_evB (es:=es) 36 [] hown ao n cap hes.len (by simp; omega) (.inr ⟨b,off,e,h1⟩)
      exact ⟨v',w',k1,by simpa [ecells] using k2,k3,k5⟩
  have hrow2:w2.ownsRow 0 TE 8 v' es.length (ecells es):=by rw [<-hes.len]; exact hrow
  obtain ⟨a2,c2,rfl⟩:=rowE_shape hrow
  have HR:=Lib.hid hrun
  have hfin:Becomes [] (rowE TE 8 (.slice a2 es.length c2) es.length (ecells es)) w w2:=by
    rw [<-hes.len] at hrow2 ⊢
    refine ⟨_,⟨hrow2,rfl⟩,(Tn.refl [] w).alloc _ |>.grown hgr (fun k hk => .inr ?_),fun k hk => .inr ?_⟩
    · have:k=w.heap.size:=by simpa using hk.symm
      omega
    · have hk':=Option.mem_toList.1 hk
      rcases hlo with c | c
      · rw [c] at hk'
        have:k=w.heap.size:=by simpa using hk'.symm
        omega
      · rw [c] at hk'
        have:k=(w.alloc (.cells #[] TE)).heap.size:=by simpa using hk'.symm
        rw [this]; simp
  have HF:=Lib.hid hfin
  clear hrow hrow2 hgr hlo hfin hown hrun hes hc hes2 hn
  go_enter Tryz.func35,Tryz.ntmps35
  go_wp2_with (at_builtin; refine app_ev rfl _ _ rfl rfl rfl HR.out ?_)
  go_ret
  exact ⟨_,_,rfl,HF.out⟩
theorem esat_lit (W:World) (fs:List Ev):EsAt (W.alloc (.cells (ecells fs).toArray TE)) W.heap.size 0 fs:=fun i u hu=>by
  rw [Nat.zero_add,cell_of_row _ W.heap.size i _ _ _ (heap_alloc_new W _),List.getElem?_toArray]
  exact hu
section
variable {w0 w W:World} {C:Ass}
theorem app_litB {ops:Array Oper} {rest:List Oper} {o:Oper} {a:Act} {Q:Exit->Act->World->Prop} (hC:C.Good) (hgd:o.guard=Option.none) (s x:Operand)
    (ho:o.op = .call { callee := .builtin .append,args := #[s,x],argTypes := #[36,36] }) (ao:Option Addr) (n cap:Nat) (es fs:List Ev) (k:Nat) (hs:a.eval s = .slice ao n cap) (hx:a.eval x = .slice (some ⟨W.heap.size,0,Option.none⟩) k k) (hk:k=fs.length) {cs:Array Value} (hcs:cs=(ecells fs).toArray)
    (hS:At w0 ((rowE TE 8 (.slice ao n cap) es.length (ecells es)).star C) W) (hn:es.length+k<=2199023255552) (h : ∀ a2 c2 w',At w0 ((rowE TE 8 (.slice a2 (n+k) c2) (es++fs).length (ecells (es++fs))).star C) w'->wpList Tryz.prog ops Q rest (a.put o.dst (.slice a2 (n+k) c2)) w') :
    wpList Tryz.prog ops Q (o :: rest) a (W.alloc (.cells cs 61)):=by
  subst hcs
  obtain ⟨v',w2,hrun,hrow,hgr,hnil,hlo⟩:=run_app_evB (es:=fs) o.type es (hS.erow.alloc (.cells (ecells fs).toArray TE)) (some ⟨W.heap.size,0,none⟩) k k hk hn (.inr ⟨_,_,rfl,esat_lit W fs⟩)
  have hlen:n=es.length:=by
    obtain ⟨a3,c3,e3⟩:=rowE_shape hS.erow
    simp at e3
    exact e3.2.1
  obtain ⟨a2,c2,rfl⟩:=rowE_shape hrow
  rw [<-hlen] at hrun hrow hlo
  refine app_ev hgd s x ho hs hx hrun (h a2 c2 w2 ?_)
  have hg:=(World.grownBy_alloc W (.cells (ecells fs).toArray TE) _).trans hgr
  refine hS.appendedE hC hg ?_ ?_
  · rw [ecells_app,List.length_append, <- hlen, <- hk]
    exact hrow
  · rcases hlo with c | c
    · exact .inl c
    · exact .inr ⟨_,by simp,c⟩
theorem row_bigB {ao:Option Addr} {k cap:Nat} {es:List Ev} (h:At w0 ((rowE TE 8 (.slice ao k cap) es.length (ecells es)).star C) w) (hk:1<=es.length) : ∃ g,ao=some ⟨g,0,none⟩/\k=es.length/\k<=cap:=by
  obtain ⟨_,⟨F1,F2,rfl,⟨h1,rfl⟩,_,_⟩,_⟩:=h
  rcases h1.2 with ⟨e,h0⟩ | ⟨g,c,cur,e,_,hg,hle,_⟩
  · omega
  · obtain ⟨rfl,rfl,rfl⟩:ao=some ⟨g,0,none⟩/\k=es.length/\cap=c:=by simpa using e
    exact ⟨g,rfl,rfl,hle⟩
theorem lend {ao:Option Addr} {n cap:Nat} {es:List Ev} (hes:EsIn [] w ao n es) (hc:ao=none->cap=0) (hn:n<=2199023255488) :
    Calls Tryz.prog 14 #[.slice ao n cap] w fun e w' => ∃ g c2,e = .returned (.slice (some ⟨g,0,none⟩) n c2)/\n+2<=c2/\Becomes [] ((rowE TE 8 (.slice (some ⟨g,0,none⟩) (es++mks).length c2) (es++mks).length (ecells (es++mks))).star emp) w w':=by
  have HC:=Lib.hid (lcopyB (cap:=cap) hes hc hn)
  have hlen:=hes.len
  have HL:=Lib.hid hlen
  have hel:es.length+2<=2199023255552:=by omega
  clear hes hc hlen
  go_enter Tryz.func14,Tryz.ntmps14
  go_wp2_with (first
    | (go_at_call 35; (with_reducible refine HC.out.mono ?_); rintro e w1 ⟨a1,c1,rfl,hb⟩; have hS:=At.add emp_good (At.none (Below.refl w.heap.size w)) hb; rw [<-HL.out] at hS; clear hb; have hS2:At w ((rowE TE 8 (.slice a1 n c1) es.length (ecells es)).star emp) w1:=by rw [<-HL.out]; exact hS)
    | (at_builtin; refine app_litB emp_good rfl _ _ rfl a1 n c1 es mks 2 rfl rfl rfl rfl hS2 hel ?_; intro a3 c3 w3 hS3; obtain ⟨g,rfl, -,hle⟩:=row_bigB hS3 (by rw [List.length_append]; show 1<=es.length+2; omega); have hle2:(n:Int)<=(c3:Int):=by omega))
  go_ret
  refine ⟨g,c3,rfl,hle, ?_⟩
  have:=hS3.made
  rw [show (es++mks).length=n+2 by rw [List.length_append,HL.out]; rfl]
  rw [show (es++mks).length=n+2 by rw [List.length_append,HL.out]; rfl] at this
  exact this
end
open Go Go.RowKit
section
variable {w0 w:World} {C:Ass}
theorem esat_row {g cap:Nat} {es:List Ev} {n:Nat} (h:At w0 ((rowE TE 8 (.slice (some ⟨g,0,none⟩) n cap) es.length (ecells es)).star C) w):EsAt w g 0 es/\g<w.heap.size:=by
  have hr:=h.erow
  refine ⟨fun i u hu => ?_,(hr.lt g (by simp [Value.ownBlock])).2⟩
  have:=hr.cells (g:=g) rfl i u hu
  rw [Addr.add_lit] at this
  exact this
theorem mk_at (es:List Ev):(es++mks).getD es.length Ev.zero=mkEv/\(es++mks).getD (es.length+1) Ev.zero=mkEv:=by
  constructor <;> simp [List.getD]
set_option maxRecDepth 100000 in
set_option maxHeartbeats 4000000 in
theorem kept {g c2 cap:Nat} {ao:Option Addr} {es:List Ev} (hS:At w0 ((rowE TE 8 (.slice (some ⟨g,0,none⟩) (es++mks).length c2) (es++mks).length (ecells (es++mks))).star C) w) (hes:EsIn [] w ao es.length es) (hn:es.length<=2199023255488) (hc2:es.length+2<=c2) :
    Calls Tryz.prog 27 #[.slice (some ⟨g,0,none⟩) es.length c2, .slice ao es.length cap] w fun e w'=>e = .returned (.bool true)/\Below w.heap.size w w':=by
  obtain ⟨hat,hg⟩:=esat_row hS
  have hpre:EsIn [] w (some ⟨g,0,none⟩) es.length es:=⟨rfl, .inr ⟨g,0,rfl,fun i u hu=>hat i u (by
    rw [ecells_app,List.getElem?_append_left (by rcases Nat.lt_or_ge i (ecells es).length with c | c; exact c; rw [List.getElem?_eq_none c] at hu; cases hu)]
    exact hu),by simp,hg⟩,by omega⟩
  have HSm:=Lib.hid ((lsame_ev (c1:=c2) (c2:=cap) hpre hes).mono (R':=fun e w'=>e = .returned (.bool true)/\Below w.heap.size w w') fun e w' ⟨a,b⟩=>⟨by rw [a]; simp,b⟩)
  have HE:=Lib.hid (fun W (hb:Below w.heap.size w W)=>And.intro ((hat.same (hb.block g hg)).elem (j:=es.length) (by rw [List.length_append]; show es.length<es.length+2; omega)) ((hat.same (hb.block g hg)).elem (j:=es.length+1) (by rw [List.length_append]; show es.length+1<es.length+2; omega)))
  rw [(mk_at es).1,(mk_at es).2] at HE
  clear hS hes hat hg hpre
  have hw2:IntKind.i64.wrap ((es.length:Int)+2)=(es.length:Int)+2:=by rw [IntKind.wrap_i64]; omega
  have hw1:IntKind.i64.wrap ((es.length:Int)+1)=(es.length:Int)+1:=by rw [IntKind.wrap_i64]; omega
  have hl2:(es.length:Int)+2<=(c2:Int):=by omega
  generalize es.length=n at *
  go_enter Tryz.func27,Tryz.ntmps27
  go_wp2_with (go_at_call 28; (with_reducible refine HSm.out.mono ?_); rintro e w1 ⟨rfl,hb⟩; obtain ⟨⟨a0,a1,a2,a3,a4,a5,a6,a7⟩,⟨z0,z1,z2,z3,z4,z5,z6,z7⟩⟩:=HE.out _ hb; simp only [Nat.zero_add] at a0 a1 a2 a3 a4 a5 a6 a7 z0 z1 z2 z3 z4 z5 z6 z7)
  go_ret
  exact ⟨rfl,hb⟩
theorem At.whole {g cap n:Nat} {es:List Ev} (h:At w0 ((rowE TE 8 (.slice (some ⟨g,0,Option.none⟩) n cap) es.length (ecells es)).star C) w) : ∃ cur:Array Value,(∀ j,j<es.length → ∃ z,cur[j * 8+7]? = some (.int .i64 z))/\At w0 ((ownA g cur TE).star C) w:=by
  obtain ⟨F,⟨F1,F2,rfl,⟨h1,rfl⟩,g2,g3⟩,hB,hb⟩:=h
  rcases h1.2 with ⟨e,_⟩ | ⟨g',c,cur,e,_,hg,hle,_,hsz,htk⟩
  · simp at e
  · obtain ⟨rfl,rfl,rfl⟩:g=g'/\n=es.length/\cap=c:=by simpa using e
    refine ⟨cur,fun j hj => ?_,[g]++F2,⟨[g],F2,rfl,⟨hg,rfl⟩,g2,fun k hk=>g3 k (by simpa [Value.ownBlock] using hk)⟩,fun k hk=>hB k (by simpa [Value.ownBlock] using hk),hb⟩
    have hc:=ecells_at es hj (i:=7) (by decide)
    rw [<-htk,List.getElem?_take_of_lt (by omega)] at hc
    exact ⟨_,by rw [<-Array.getElem?_toList]; exact hc⟩
set_option maxHeartbeats 4000000 in
theorem spoil (hC : C.Good) {ao : Option Addr} {n cap : Nat} {es : List Ev} (h : At w0 ((rowE TE 8 (.slice ao n cap) es.length (ecells es)).star C) w) (hn : es.length ≤ 1000) :
    Calls Tryz.prog 32 #[.slice ao n cap] w fun e w'=>e = .returned (.tuple #[])/\At w0 C w':=by
  obtain ⟨a3,c3,e3⟩:=rowE_shape h.erow
  obtain ⟨rfl,rfl,rfl⟩:ao=a3/\n=es.length/\cap=c3:=by simpa using e3
  clear e3
  by_cases h0:es.length=0
  · have hS:=h.drop
    rw [h0]
    clear h
    go_enter Tryz.func32,Tryz.ntmps32
    go_wp2
    go_loopw [2] (fun x wr=>x = .int .i64 0/\At w0 C wr) (fun _ _=>0)
    case atStart=>exact ⟨rfl,hS⟩
    case round =>
      clear hS
      obtain ⟨rfl,hS⟩:=hrel
      go_wp2
      refine Great.bodyPost_end0 rfl rfl ?_
      exact ⟨rfl,hS⟩
  · obtain ⟨g,rfl, -, -⟩:=row_bigB h (by omega)
    obtain ⟨cur,hcur,hS⟩:=h.whole
    clear h
    generalize es.length=m at *
    go_enter Tryz.func32,Tryz.ntmps32
    go_wp2
    go_loopw [2] (fun x wr => ∃ (k:Nat) (cur:Array Value),k<=m/\x = .int .i64 (k:Int)/\(∀ j,j<m → ∃ z,cur[j * 8+7]? = some (.int .i64 z))/\At w0 ((ownA g cur TE).star C) wr) (fun x _=>m - (intOf x).toNat)
    case atStart=>exact ⟨0,cur,Nat.zero_le _,rfl,hcur,hS⟩
    case round =>
      clear hS hcur
      obtain ⟨k,cur,hkm,rfl,hcur,hS⟩:=hrel
      by_cases hlt:k<m
      · have hltI:(k:Int)<(m:Int):=by omega
        obtain ⟨z,hz⟩:=hcur k hlt
        obtain ⟨o1,o2,o3⟩:=hS.own
        have c7:wr.cell? ⟨g,k * 8+7,none⟩=some (.int .i64 z):=(o1 _).trans hz
        have f7:=o2 (k * 8+7)
        obtain ⟨y,hy⟩ : ∃ y,bits .xor .i64 z 90=y:=⟨_,rfl⟩
        have hP:=hS.poke hC (k * 8+7) (.int .i64 y)
        have HP:=Lib.hid hP
        have HN:=Lib.hid (show ∀ j,j<m → ∃ z,(cur.setIfInBounds (k * 8+7) (.int .i64 y))[j * 8+7]? = some (.int .i64 z) from fun j hj=>by
          by_cases c:j=k
          · subst c
            have hlt2:j * 8+7<cur.size:=(Array.getElem?_eq_some_iff.1 hz).1
            exact ⟨y,by rw [Array.getElem?_setIfInBounds,if_pos rfl,if_pos hlt2]⟩
          · rw [Array.getElem?_setIfInBounds,if_neg (by omega)]
            exact hcur j hj)
        clear hP hS o1 o2 o3 hcur hz
        go_wp2
        go_round
        case rel=>exact ⟨k+1,_,by omega,by go_num,HN.out,HP.out⟩
        case measure=>simp [intOf]; omega
      · obtain rfl:k=m:=by omega
        have hltI : ¬ (k:Int)<(k:Int):=by omega
        have hD:=hS.drop
        clear hS hcur
        go_wp2
        refine Great.bodyPost_end0 rfl rfl ?_
        exact ⟨rfl,hD⟩
end
open Go Go.RowKit
structure JIv (D:Dk) (J:Jn) (n i:Nat):Prop where
  kl:D.kept.length=n
  fit:2+J.all.length<=n
  wl:D.waits.length<=300 * (i+1)
theorem wr_bound (d:Dk) (i:Int) (s:ByteArray):(d.wr i s).waits.length<=d.waits.length+1:=Dk.waits_wr (Nat.le_refl _)
theorem wrAll_bound (ss:List ByteArray) (d:Dk) (i:Nat):(wrAll d i ss).kept.length=d.kept.length/\(wrAll d i ss).waits.length<=d.waits.length+ss.length:=by
  induction ss generalizing d i with
  | nil=>exact ⟨rfl,Nat.le_refl _⟩
  | cons s r ih =>
    obtain ⟨a,b⟩:=ih (d.wr (i:Int) s) (i+1)
    have h1:=wr_bound d (i:Int) s
    exact ⟨a.trans (Dk.len_wr _ _ _),by unfold wrAll; simp only [List.length_cons]; omega⟩
theorem jp_small {most:Int} {ts:List ByteArray} {J:Jn} {d:Dk} {es:List Ev} (hE:jpE most ts J d es=0):(jpS most ts J es).length+J.all.length+2<=d.kept.length/\(jpS most ts J es).length=es.length:=by
  obtain ⟨_,_,z3,z4⟩:=jpE_zero hE
  obtain ⟨c1,_,_⟩:=jpGo_chain z4
  exact ⟨by omega,c1⟩
section
variable {most:Int} {T:List ByteArray} {D:Dk} {J:Jn} {n i:Nat}
theorem JIv.write (h:JIv D J n i) (hn:n<=256) (es:List Ev):JIv (wtD most T J D es) (wtJ most T J D es) n (i+1):=by
  obtain ⟨h1,h2,h3⟩:=h
  by_cases hE:jpE most T J D es=0
  · obtain ⟨g1,g2⟩:=jp_small hE
    obtain ⟨a,b⟩:=wrAll_bound (jpS most T J es) D (2+J.all.length)
    unfold wtD wtJ
    rw [if_pos hE,if_pos hE]
    exact ⟨a.trans h1,h2,by omega⟩
  · unfold wtD wtJ
    rw [if_neg hE,if_neg hE]
    exact ⟨h1,h2,by omega⟩
theorem fl_bound (d:Dk):d.fl.waits.length<=d.waits.length:=by
  unfold Dk.fl
  split
  · exact Nat.le_refl _
  · exact Nat.zero_le _
theorem JIv.append (h:JIv D J n i) (hn:n<=256) (es:List Ev):JIv (apD most T J D es) (apJ most T J D es) n (i+1):=by
  obtain ⟨h1,h2,h3⟩:=h
  by_cases hE:jpE most T J D es=0
  · obtain ⟨g1,g2⟩:=jp_small hE
    obtain ⟨a,b⟩:=wrAll_bound (jpS most T J es) D (2+J.all.length)
    have hf:=fl_bound (wrAll D (2+J.all.length) (jpS most T J es))
    unfold apD apJ
    rw [if_pos hE,if_pos hE]
    exact ⟨(Dk.len_fl _).trans (a.trans h1),by show 2+(J.all++es).length<=n; rw [List.length_append]; omega,by omega⟩
  · unfold apD apJ
    rw [if_neg hE,if_neg hE]
    exact ⟨h1,h2,by omega⟩
theorem cr_bound (d:Dk) (m t:Int):(d.cr m t).waits.length<=d.waits.length:=by
  unfold Dk.cr
  split
  · exact Nat.le_refl _
  · split
    · exact Nat.zero_le _
    · exact Nat.le_refl _
theorem JIv.next (h:JIv D J n i):JIv D J n (i+1):=⟨h.kl,h.fit,by have:=h.wl; omega⟩
theorem JIv.wr (h:JIv D J n i) (k:Int) (s:ByteArray):JIv (D.wr k s) J n (i+1):=⟨(Dk.len_wr _ _ _).trans h.kl,h.fit,by have:=h.wl; have:=wr_bound D k s; omega⟩
theorem JIv.cr (h:JIv D J n i) (m t:Int):JIv (D.cr m t) J n i:=⟨(Dk.len_cr _ _ _).trans h.kl,h.fit,Nat.le_trans (cr_bound D m t) h.wl⟩
theorem JIv.rs (h:JIv D J n i):JIv D.rs J n i:=⟨h.kl,h.fit,h.wl⟩
theorem jnGo_le (ts L:List ByteArray) (n:Nat) (l:Int):(jnGo ts L n l).1.length<=L.length:=(jnGo_chain ts L n l).1.len
theorem joE_three {ts:List ByteArray} (h:joE most ts D=0):3<=D.kept.length:=by
  unfold joE at h
  split at h
  · cases h
  · split at h
    · cases h
    · omega
theorem JIv.open (h:JIv D J n i) (hE:joE most T D=0):JIv (joD most T D) (joJ most T D) n (i+1):=by
  have h3:=joE_three hE
  have hkl:(joD most T D).kept.length=D.kept.length:=by
    unfold joD
    rw [if_pos hE]
    exact (Dk.len_fl _).trans (Dk.len_wr _ _ _)
  have hwl:(joD most T D).waits.length<=D.waits.length+1:=by
    unfold joD
    rw [if_pos hE]
    exact Nat.le_trans (fl_bound _) (wr_bound _ _ _)
  refine ⟨hkl.trans h.kl, ?_,by have:=h.wl; omega⟩
  have:=jnGo_le (joT most T D) ((joD most T D).see.drop 2) 0 0
  rw [List.length_drop,show (joD most T D).see.length=(joD most T D).kept.length from keepAll_len _ _] at this
  show 2+(jnGo (joT most T D) ((joD most T D).see.drop 2) 0 0).1.length<=n
  have:=h.kl
  omega
theorem JIv.new (n:Nat) (hE:joE most [] (Dk.new n)=0):JIv (joD most [] (Dk.new n)) (joJ most [] (Dk.new n)) n 0/\3<=n:=by
  have hk:(Dk.new n).kept.length=n:=by simp [Dk.new]
  have h3:=joE_three hE
  rw [hk] at h3
  have h0:JIv (Dk.new n) ⟨0,0,[],false⟩ n 0:=⟨hk,by show 2+0<=n; omega,by simp [Dk.new]⟩
  have h1:=h0.open hE
  refine ⟨⟨h1.kl,h1.fit, ?_⟩,h3⟩
  have hwl:(joD most [] (Dk.new n)).waits.length<=(Dk.new n).waits.length+1:=by
    unfold joD
    rw [if_pos hE]
    exact Nat.le_trans (fl_bound _) (wr_bound _ _ _)
  have:(Dk.new n).waits.length=0:=by simp [Dk.new]
  omega
end
abbrev YY (pb pd p qb qd q:Nat) (most m:Int) (Tp:List ByteArray) (Dp:Dk) (Jp:Jn) (Tq:List ByteArray) (Dq:Dk) (Jq:Jn) (R:Ass):Ass:=(BD pb pd most Tp Dp).star ((JO p pb pd m Jp).star ((RB qb qd most Tq Dq).star ((GO q qb qd Jq).star R)))
section
variable {w W:World} {R:Ass} {pb pd p qb qd q:Nat} {most m:Int} {Tp Tq:List ByteArray} {Dp Dq:Dk} {Jp Jq:Jn}
theorem YY_good (hR:R.Good):(YY pb pd p qb qd q most m Tp Dp Jp Tq Dq Jq R).Good:=(BD_good _ _ _ _ _).star ((JO_good _ _ _ _ _).star ((RB_good _ _ _ _ _).star ((GO_good _ _ _ _).star hR)))
theorem pairs (A B C D R:Ass):(A.star (B.star (C.star (D.star R)))).imp (C.star (D.star (A.star (B.star R)))):=(Ass.imp.up2 _ _ _ _).trans ((Ass.imp.up2 _ _ _ _).under _)
theorem yp (hR:R.Good) {f:FuncId} {args:Array Value} {u:Ending} {D':Dk} (hd:Does Tryz.prog (dpA pd Dp) f args u (dpA pd D')) (h:At w (YY pb pd p qb qd q most m Tp Dp Jp Tq Dq Jq R) W):Calls Tryz.prog f args W fun e w'=>e=u/\At w (YY pb pd p qb qd q most m Tp D' Jp Tq Dq Jq R) w' :=
  jldisk ((JO_good _ _ _ _ _).star ((RB_good _ _ _ _ _).star ((GO_good _ _ _ _).star hR))) hd h
theorem yq (hR:R.Good) {f:FuncId} {args:Array Value} {u:Ending} {D':Dk} (hd:Does Tryz.prog (dkA TR qd Dq) f args u (dkA TR qd D')) (h:At w (YY pb pd p qb qd q most m Tp Dp Jp Tq Dq Jq R) W):Calls Tryz.prog f args W fun e w'=>e=u/\At w (YY pb pd p qb qd q most m Tp Dp Jp Tq D' Jq R) w' :=
  (gldisk ((BD_good _ _ _ _ _).star ((JO_good _ _ _ _ _).star ((GO_good _ _ _ _).star hR))) hd (h.imp (Ass.imp.up2 _ _ _ _))).mono fun _ _ ⟨a,b⟩=>⟨a,b.imp (Ass.imp.dn2 _ _ _ _)⟩
theorem yappq (hR:R.Good) {ao:Option Addr} {n cap:Nat} {es:List Ev} (hes:EsIn [] w ao n es) (hc:ao=none->cap=0) (hb:JOk Tq Dq m Jq) (h:At w (YY pb pd p qb qd q most m Tp Dp Jp Tq Dq Jq R) W) :
    Calls Tryz.prog 17 #[.pointer (some ⟨q,0,none⟩), .slice ao n cap] W fun e w'=>e = .returned (.int .i64 (jpE most Tq Jq Dq es))/\At w (YY pb pd p qb qd q most m Tp Dp Jp (jpT most Tq Jq Dq es) (apD most Tq Jq Dq es) (apJ most Tq Jq Dq es) R) w' :=
  (glapp ((BD_good _ _ _ _ _).star ((JO_good _ _ _ _ _).star hR)) (h.imp (pairs _ _ _ _ _)) hes hc hb).mono fun _ _ ⟨a,b⟩=>⟨a,b.imp (pairs _ _ _ _ _)⟩
theorem ywrtq (hR:R.Good) {ao:Option Addr} {n cap:Nat} {es:List Ev} (hes:EsIn [] w ao n es) (hb:JOk Tq Dq m Jq) (h:At w (YY pb pd p qb qd q most m Tp Dp Jp Tq Dq Jq R) W) :
    Calls Tryz.prog 19 #[.pointer (some ⟨q,0,none⟩), .slice ao n cap] W fun e w'=>e = .returned (.int .i64 (jpE most Tq Jq Dq es))/\At w (YY pb pd p qb qd q most m Tp Dp Jp (jpT most Tq Jq Dq es) (wtD most Tq Jq Dq es) (wtJ most Tq Jq Dq es) R) w' :=
  (glwrt (cap:=cap) ((BD_good _ _ _ _ _).star ((JO_good _ _ _ _ _).star hR)) (h.imp (pairs _ _ _ _ _)) hes hb).mono fun _ _ ⟨a,b⟩=>⟨a,b.imp (pairs _ _ _ _ _)⟩
abbrev ROWB (g c2:Nat) (es:List Ev):Ass:=rowE TE 8 (.slice (some ⟨g,0,none⟩) (es++mks).length c2) (es++mks).length (ecells (es++mks))
theorem yappp {g c2:Nat} {es:List Ev} (hR:R.Good) (hn:(es++mks).length<=2199023255552) (hb:JOk Tp Dp m Jp) (h:At w (YY pb pd p qb qd q most m Tp Dp Jp Tq Dq Jq ((ROWB g c2 es).star R)) W) :
    Calls Tryz.prog 15 #[.pointer (some ⟨p,0,none⟩), .slice (some ⟨g,0,none⟩) es.length c2] W fun e w'=>e = .returned (.int .i64 (jpE most Tp Jp Dp es))/\At w (YY pb pd p qb qd q most m (jpT most Tp Jp Dp es) (apD most Tp Jp Dp es) (apJ most Tp Jp Dp es) Tq Dq Jq ((ROWB g c2 es).star R)) w' :=
  (jlappL ((RB_good _ _ _ _ _).star ((GO_good _ _ _ _).star hR)) (h.imp (((Ass.imp.up2 _ _ _ _).under _).under _)) hb hn).mono fun _ _ ⟨a,b⟩=>⟨a,b.imp (((Ass.imp.dn2 _ _ _ _).under _).under _)⟩
theorem ywrtp {g c2:Nat} {es:List Ev} (hR:R.Good) (hn:(es++mks).length<=2199023255552) (hb:JOk Tp Dp m Jp) (h:At w (YY pb pd p qb qd q most m Tp Dp Jp Tq Dq Jq ((ROWB g c2 es).star R)) W) :
    Calls Tryz.prog 18 #[.pointer (some ⟨p,0,none⟩), .slice (some ⟨g,0,none⟩) es.length c2] W fun e w'=>e = .returned (.int .i64 (jpE most Tp Jp Dp es))/\At w (YY pb pd p qb qd q most m (jpT most Tp Jp Dp es) (wtD most Tp Jp Dp es) (wtJ most Tp Jp Dp es) Tq Dq Jq ((ROWB g c2 es).star R)) w' :=
  (jlwrtL ((RB_good _ _ _ _ _).star ((GO_good _ _ _ _).star hR)) (h.imp (((Ass.imp.up2 _ _ _ _).under _).under _)) hb hn).mono fun _ _ ⟨a,b⟩=>⟨a,b.imp (((Ass.imp.dn2 _ _ _ _).under _).under _)⟩
theorem yopen_yes {T:List ByteArray} {D:Dk} (hR:R.Good) (hg:Gd w) (ho:D.Ok) (hl:T.length<=1000000) (hn:D.waits.length<=1000000) (hE:joE most T D=0) (h:At w (YY pb pd p qb qd q most m T D Jp T D Jq R) W) :
    Calls Tryz.prog 13 #[.pointer (some ⟨pb,0,none⟩), .pointer (some ⟨qb,0,none⟩), .pointer (some ⟨pd,0,none⟩), .pointer (some ⟨qd,0,none⟩)] W fun e w' => ∃ p2 q2:Nat,e = .returned (.tuple #[.pointer (some ⟨p2,0,none⟩), .pointer (some ⟨q2,0,none⟩), .bool true]) ∧
      At w (YY pb pd p2 qb qd q2 most ((D.kept.length - 2:Nat):Int) (joT most T D) (joD most T D) (joJ most T D) (joT most T D) (joD most T D) (joJ most T D) R) w' :=
  (opened_yes ((JO_good _ _ _ _ _).star ((GO_good _ _ _ _).star hR)) hg (h.imp ((Ass.imp.swap _ _ _).under _)) ho hl hn hE).mono fun _ _ ⟨p2,q2,a,b⟩=>⟨p2,q2,a,((b.imp (up4 _ _ _ _ _ _)).drop.imp (up4 _ _ _ _ _ _)).drop⟩
theorem yopen_no {T:List ByteArray} {D:Dk} (hR:R.Good) (hg:Gd w) (ho:D.Ok) (hl:T.length<=1000000) (hn:D.waits.length<=1000000) (hE:joE most T D≠0) (h:At w (YY pb pd p qb qd q most m T D Jp T D Jq R) W) :
    Calls Tryz.prog 13 #[.pointer (some ⟨pb,0,none⟩), .pointer (some ⟨qb,0,none⟩), .pointer (some ⟨pd,0,none⟩), .pointer (some ⟨qd,0,none⟩)] W fun e w'=>e = .returned (.tuple #[.pointer none, .pointer none, .bool true]) ∧
      At w (YY pb pd p qb qd q most m (joT most T D) D Jp (joT most T D) D Jq R) w' :=
  (opened_no ((JO_good _ _ _ _ _).star ((GO_good _ _ _ _).star hR)) hg (h.imp ((Ass.imp.swap _ _ _).under _)) ho hl hn hE).mono fun _ _ ⟨a,b⟩=>⟨a,b.imp ((Ass.imp.swap _ _ _).under _)⟩
theorem YY.known (h:At w (YY pb pd p qb qd q most m Tp Dp Jp Tq Dq Jq R) W):Dq.Ok/\(Tq.length:Int)<=most/\most<=65536:=RB.known h.drop.drop
theorem YY.jok {n i:Nat} {T:List ByteArray} {D:Dk} {J:Jn} (h:At w (YY pb pd p qb qd q most ((n - 2:Nat):Int) T D J T D J R) W) (hI:JIv D J n i) (h3:3<=n) (hi:i<=60):JOk T D ((n - 2:Nat):Int) J:=by
  obtain ⟨a,b,c⟩:=YY.known h
  have:=hI.kl
  have:=hI.wl
  have:=hI.fit
  exact ⟨a,by omega,by omega,by omega,by omega,by omega⟩
abbrev ACTA (b:Nat) (k:Int) (ao:Option Addr) (n cap:Nat) (mk t i:Int) (s:ByteArray):Ass:=ownA b #[.int .i64 k, .slice ao n cap, .int .i64 mk, .int .i64 t, .int .i64 i, .string s] 38
theorem YY.act {g c2 b:Nat} {es:List Ev} {k mk t i:Int} {ao:Option Addr} {n cap:Nat} {s:ByteArray} (h:At w (YY pb pd p qb qd q most m Tp Dp Jp Tq Dq Jq ((ROWB g c2 es).star ((ACTA b k ao n cap mk t i s).star emp))) W) :
    W.cell? ⟨b,0,none⟩=some (.int .i64 k)/\W.cell? ⟨b,1,none⟩=some (.slice ao n cap)/\W.cell? ⟨b,2,none⟩=some (.int .i64 mk)/\W.cell? ⟨b,3,none⟩=some (.int .i64 t)/\W.cell? ⟨b,4,none⟩=some (.int .i64 i)/\W.cell? ⟨b,5,none⟩=some (.string s) :=
  have f:=h.drop.drop.drop.drop.drop.own.1
  ⟨f 0,f 1,f 2,f 3,f 4,f 5⟩
theorem lain (A B C D E G:Ass):(A.star (B.star (C.star (D.star (E.star (G.star emp)))))).imp (C.star (D.star (E.star (G.star (A.star (B.star emp)))))):=((dn4 _ _ _ _ _ _).under _).trans (dn4 _ _ _ _ _ _)
theorem emp_right (X:Ass):(X.star emp).imp X:=by
  rintro w F ⟨F1,F2,rfl,h,rfl,_⟩
  exact ⟨F1,h,fun k=>by simp⟩
end
end Go.Proofs.YtbfpfmidjdonjaaGreatDoor
