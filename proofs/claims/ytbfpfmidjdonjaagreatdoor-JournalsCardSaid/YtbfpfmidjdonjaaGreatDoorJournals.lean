/- The walk of Journals. Conditions: the arguments' bounds, the handle of the type error. (Written by tools/gjournals.py.) -/
import Derived.Test.YtbfpfmidjdonjaaGreatDoorBjs
import Derived.Test.YtbfpfmidjdonjaaGreatDoorBrg
namespace Go.Proofs.YtbfpfmidjdonjaaGreatDoor
open Go Go.RowKit
abbrev yja0:Oper:=⟨some 127, .move (.tmp 17),40, "law.go:116", #[],none⟩
abbrev yja1:Oper:=⟨some 128, .call { callee := .value (.func 16),args := #[.tmp 127],argTypes := #[40] },3, "law.go:116", #[⟨0, .data⟩],none⟩
abbrev yja2:Oper:=⟨some 129, .move (.tmp 12),33, "law.go:116", #[],none⟩
abbrev yja3:Oper:=⟨some 130, .fieldAddr 38 (.tmp 15) 1,0, "law.go:116", #[],none⟩
abbrev yja4:Oper:=⟨some 131, .load 36 (.tmp 130),36, "law.go:116", #[⟨3, .data⟩],none⟩
abbrev yja5:Oper:=⟨some 132, .call { callee := .value (.func 17),args := #[.tmp 129, .tmp 131],argTypes := #[33,36] },3, "law.go:116", #[⟨2, .data⟩,⟨4, .data⟩,⟨1, .chain⟩],none⟩
abbrev yja6:Oper:=⟨some 133, .binOp .neq 3 (.tmp 128) (.tmp 132) 3,4, "law.go:116", #[⟨1, .data⟩,⟨5, .data⟩],none⟩
abbrev yjb0:Oper:=⟨some 141, .move (.tmp 18),40, "law.go:121", #[],none⟩
abbrev yjb1:Oper:=⟨some 142, .call { callee := .value (.func 16),args := #[.tmp 141],argTypes := #[40] },3, "law.go:121", #[⟨0, .data⟩],none⟩
abbrev yjb2:Oper:=⟨some 143, .move (.tmp 12),33, "law.go:121", #[],none⟩
abbrev yjb3:Oper:=⟨some 144, .fieldAddr 38 (.tmp 15) 1,0, "law.go:121", #[],none⟩
abbrev yjb4:Oper:=⟨some 145, .load 36 (.tmp 144),36, "law.go:121", #[⟨3, .data⟩],none⟩
abbrev yjb5:Oper:=⟨some 146, .call { callee := .value (.func 19),args := #[.tmp 143, .tmp 145],argTypes := #[33,36] },3, "law.go:121", #[⟨2, .data⟩,⟨4, .data⟩,⟨1, .chain⟩],none⟩
abbrev yjb6:Oper:=⟨some 147, .binOp .neq 3 (.tmp 142) (.tmp 146) 3,4, "law.go:121", #[⟨1, .data⟩,⟨5, .data⟩],none⟩
abbrev yjc0:Oper:=⟨some 174, .move (.tmp 16),36, "law.go:152", #[],none⟩
abbrev yjc1:Oper:=⟨some 175, .fieldAddr 38 (.tmp 15) 1,0, "law.go:152", #[],none⟩
abbrev yjc2:Oper:=⟨some 176, .load 36 (.tmp 175),36, "law.go:152", #[⟨1, .data⟩],none⟩
abbrev yjc3:Oper:=⟨some 177, .call { callee := .value (.func 27),args := #[.tmp 174, .tmp 176],argTypes := #[36,36] },4, "law.go:152", #[⟨0, .data⟩,⟨2, .data⟩],none⟩
abbrev yjc4:Oper:=⟨some 178, .unOp .not 4 (.tmp 177),4, "law.go:152", #[⟨3, .data⟩],none⟩
abbrev yjc5:Oper:=⟨some 179, .move (.tmp 178),4, "law.go:152", #[⟨4, .data⟩,⟨3, .chain⟩],none⟩
abbrev yjc6:Oper:=⟨some 180, .move (.tmp 22),36, "law.go:152", #[⟨5, .guard⟩],some (5,false)⟩
abbrev yjc7:Oper:=⟨some 181, .move (.tmp 12),33, "law.go:152", #[⟨5, .guard⟩],some (5,false)⟩
abbrev yjc8:Oper:=⟨some 182, .nilCheck (.tmp 181),0, "law.go:152", #[⟨7, .data⟩,⟨5, .guard⟩],some (5,false)⟩
abbrev yjc9:Oper:=⟨some 183, .fieldAddr 53 (.tmp 182) 5,0, "law.go:152", #[⟨8, .data⟩,⟨5, .guard⟩],some (5,false)⟩
abbrev yjc10:Oper:=⟨some 184, .load 36 (.tmp 183),36, "law.go:152", #[⟨9, .data⟩,⟨5, .guard⟩],some (5,false)⟩
abbrev yjc11:Oper:=⟨some 185, .call { callee := .value (.func 28),args := #[.tmp 180, .tmp 184],argTypes := #[36,36] },4, "law.go:152", #[⟨6, .data⟩,⟨10, .data⟩,⟨5, .chain⟩,⟨5, .guard⟩],some (5,false)⟩
abbrev yjc12:Oper:=⟨some 186, .unOp .not 4 (.tmp 185),4, "law.go:152", #[⟨11, .data⟩,⟨5, .guard⟩],some (5,false)⟩
abbrev yjc13:Oper:=⟨some 187, .pick (.tmp 179) (.const (.bool true)) (.tmp 186),4, "law.go:152", #[⟨5, .data⟩,⟨12, .data⟩],none⟩
abbrev yjc14:Oper:=⟨some 188, .move (.tmp 187),4, "law.go:152", #[⟨13, .data⟩,⟨11, .chain⟩],none⟩
abbrev yjc15:Oper:=⟨some 189, .move (.tmp 11),32, "law.go:152", #[⟨14, .guard⟩],some (14,false)⟩
abbrev yjc16:Oper:=⟨some 190, .call { callee := .value (.func 29),args := #[.tmp 189],argTypes := #[32] },3, "law.go:152", #[⟨15, .data⟩,⟨14, .chain⟩,⟨14, .guard⟩],some (14,false)⟩
abbrev yjc17:Oper:=⟨some 191, .move (.tmp 12),33, "law.go:152", #[⟨14, .guard⟩],some (14,false)⟩
abbrev yjc18:Oper:=⟨some 192, .nilCheck (.tmp 191),0, "law.go:152", #[⟨17, .data⟩,⟨14, .guard⟩],some (14,false)⟩
abbrev yjc19:Oper:=⟨some 193, .fieldAddr 53 (.tmp 192) 4,0, "law.go:152", #[⟨18, .data⟩,⟨14, .guard⟩],some (14,false)⟩
abbrev yjc20:Oper:=⟨some 194, .load 3 (.tmp 193),3, "law.go:152", #[⟨19, .data⟩,⟨14, .guard⟩],some (14,false)⟩
abbrev yjc21:Oper:=⟨some 195, .binOp .neq 3 (.tmp 190) (.tmp 194) 3,4, "law.go:152", #[⟨16, .data⟩,⟨20, .data⟩,⟨14, .guard⟩],some (14,false)⟩
abbrev yjc22:Oper:=⟨some 196, .pick (.tmp 188) (.const (.bool true)) (.tmp 195),4, "law.go:152", #[⟨14, .data⟩,⟨21, .data⟩],none⟩
abbrev yjc23:Oper:=⟨some 197, .move (.tmp 196),4, "law.go:152", #[⟨22, .data⟩,⟨16, .chain⟩],none⟩
abbrev yjc24:Oper:=⟨some 198, .move (.tmp 11),32, "law.go:152", #[⟨23, .guard⟩],some (23,false)⟩
abbrev yjc25:Oper:=⟨some 199, .call { callee := .value (.func 30),args := #[.tmp 198],argTypes := #[32] },3, "law.go:152", #[⟨24, .data⟩,⟨23, .chain⟩,⟨23, .guard⟩],some (23,false)⟩
abbrev yjc26:Oper:=⟨some 200, .move (.tmp 12),33, "law.go:152", #[⟨23, .guard⟩],some (23,false)⟩
abbrev yjc27:Oper:=⟨some 201, .call { callee := .value (.func 31),args := #[.tmp 200],argTypes := #[33] },3, "law.go:152", #[⟨26, .data⟩,⟨25, .chain⟩,⟨23, .guard⟩],some (23,false)⟩
abbrev yjc28:Oper:=⟨some 202, .binOp .neq 3 (.tmp 199) (.tmp 201) 3,4, "law.go:152", #[⟨25, .data⟩,⟨27, .data⟩,⟨23, .guard⟩],some (23,false)⟩
abbrev yjc29:Oper:=⟨some 203, .pick (.tmp 197) (.const (.bool true)) (.tmp 202),4, "law.go:152", #[⟨23, .data⟩,⟨28, .data⟩],none⟩
theorem jy_Kept {a:Act} {w:World} {op:Oper} (x y:Operand) (ho:op.op = .call { callee := .value (.func 27),args := #[x,y],argTypes := #[36,36] }) {u v:Value} (hx:a.eval x=u) (hy:a.eval y=v):(execOp a.eval op).run Tryz.prog w = .ok (.enter 27 #[u,v]) w:=by
  unfold execOp
  simp only [ho,resolve,Sem.run_bind,List.map_toArray,List.map_cons,List.map_nil,hx,hy]
  go_simp
theorem jy_App {a:Act} {w:World} {op:Oper} (x y:Operand) (ho:op.op = .call { callee := .value (.func 17),args := #[x,y],argTypes := #[33,36] }) {u v:Value} (hx:a.eval x=u) (hy:a.eval y=v):(execOp a.eval op).run Tryz.prog w = .ok (.enter 17 #[u,v]) w:=by
  unfold execOp
  simp only [ho,resolve,Sem.run_bind,List.map_toArray,List.map_cons,List.map_nil,hx,hy]
  go_simp
theorem jy_Wrt {a:Act} {w:World} {op:Oper} (x y:Operand) (ho:op.op = .call { callee := .value (.func 19),args := #[x,y],argTypes := #[33,36] }) {u v:Value} (hx:a.eval x=u) (hy:a.eval y=v):(execOp a.eval op).run Tryz.prog w = .ok (.enter 19 #[u,v]) w:=by
  unfold execOp
  simp only [ho,resolve,Sem.run_bind,List.map_toArray,List.map_cons,List.map_nil,hx,hy]
  go_simp
theorem jy_Room {a:Act} {w:World} {op:Oper} (x:Operand) (ho:op.op = .call { callee := .value (.func 30),args := #[x],argTypes := #[32] }) {u:Value} (hx:a.eval x=u):(execOp a.eval op).run Tryz.prog w = .ok (.enter 30 #[u]) w:=by
  unfold execOp
  simp only [ho,resolve,Sem.run_bind,List.map_toArray,List.map_cons,List.map_nil,hx]
  go_simp
theorem jy_RoomQ {a:Act} {w:World} {op:Oper} (x:Operand) (ho:op.op = .call { callee := .value (.func 31),args := #[x],argTypes := #[33] }) {u:Value} (hx:a.eval x=u):(execOp a.eval op).run Tryz.prog w = .ok (.enter 31 #[u]) w:=by
  unfold execOp
  simp only [ho,resolve,Sem.run_bind,List.map_toArray,List.map_cons,List.map_nil,hx]
  go_simp
structure Act11 where
  k:Int
  ao:Option Addr
  n:Nat
  cap:Nat
  es:List Ev
  m:Int
  t:Int
  i:Int
  s:ByteArray
abbrev Act11.none:Act11:=⟨0,Option.none,0,0,[],0,0,0,⟨#[]⟩⟩
structure AArg11 (w:World) (ao:Option Addr) (cs:List Act11):Prop where
  cell : ∀ j,j<cs.length → ∃ b off,ao=some ⟨b,off,Option.none⟩/\w.cell? ⟨b,off+j * 6,Option.none⟩=some (.int .i64 (cs.getD j .none).k)/\w.cell? ⟨b,off+j * 6+1,Option.none⟩=some (.slice (cs.getD j .none).ao (cs.getD j .none).n (cs.getD j .none).cap) ∧
    w.cell? ⟨b,off+j * 6+2,Option.none⟩=some (.int .i64 (cs.getD j .none).m)/\w.cell? ⟨b,off+j * 6+3,Option.none⟩=some (.int .i64 (cs.getD j .none).t)/\w.cell? ⟨b,off+j * 6+4,Option.none⟩=some (.int .i64 (cs.getD j .none).i)/\w.cell? ⟨b,off+j * 6+5,Option.none⟩=some (.string (cs.getD j .none).s)
  ev : ∀ j,j<cs.length->EsIn [] w (cs.getD j .none).ao (cs.getD j .none).n (cs.getD j .none).es/\((cs.getD j .none).ao=Option.none->(cs.getD j .none).cap=0)/\(cs.getD j .none).n<=2199023255488
  bd : ∀ j,j<cs.length->(cs.getD j .none).m<=9223372036854775807/\(cs.getD j .none).t<=9223372036854775807
  few:cs.length<=9223372036854770000
theorem AArg11.below {w w':World} {ao:Option Addr} {cs:List Act11} (h:AArg11 w ao cs) (hb:Below w.heap.size w w'):AArg11 w' ao cs:=by
  refine ⟨fun j hj => ?_,fun j hj => ?_,h.bd,h.few⟩
  · obtain ⟨b,off,e,c0,c1,c2,c3,c4,c5⟩:=h.cell j hj
    have hl:=World.block_lt_of_cell? w ⟨b,off+j * 6,Option.none⟩ c0
    have hk:=fun i=>World.cell?_of_block (a:=⟨b,i,Option.none⟩) (hb.block b hl)
    exact ⟨b,off,e,(hk _).trans c0,(hk _).trans c1,(hk _).trans c2,(hk _).trans c3,(hk _).trans c4,(hk _).trans c5⟩
  · obtain ⟨x1,x2,x3⟩:=h.ev j hj
    exact ⟨esin_low x1 hb (fun k hk=>by cases hk),x2,x3⟩
abbrev XWA (pb pd p qb qd q:Nat) (most m:Int) (T2:List ByteArray) (D2:Dk) (J2:Jn) (gv a7:Option Addr) (gc c7 g c2 b:Nat) (ak:Int) (aao:Option Addr) (acap:Nat) (am at_ ai:Int) (as_:ByteArray) (aes:List Ev):Ass :=
  ((ownA q (gcs qb qd J2.over J2.last J2.boot (.slice gv J2.all.length gc)) TG).star ((rowE TE 8 (.slice gv J2.all.length gc) J2.all.length (ecells J2.all)).star ((rowE TE 8 (.slice a7 J2.all.length c7) J2.all.length (ecells J2.all)).star ((BD pb pd most T2 D2).star ((JO p pb pd m J2).star ((RB qb qd most T2 D2).star ((ROWB g c2 aes).star ((ACTA b ak aao aes.length acap am at_ ai as_).star emp))))))))
abbrev YL (pb pd p qb qd q:Nat) (most:Int) (n:Nat) (Tp:List ByteArray) (Dp:Dk) (Jp:Jn) (Tq:List ByteArray) (Dq:Dk) (Jq:Jn) (g c2 b:Nat) (ak:Int) (aao:Option Addr) (acap:Nat) (am at_ ai:Int) (as_:ByteArray) (aes:List Ev):Ass :=
  YY pb pd p qb qd q most ((n - 2:Nat):Int) Tp Dp Jp Tq Dq Jq ((ROWB g c2 aes).star ((ACTA b ak aao aes.length acap am at_ ai as_).star emp))
theorem imp6 (A B C D E G H R:Ass):(A.star (B.star (C.star (D.star (E.star (G.star (H.star R))))))).imp (H.star (A.star (B.star (C.star (D.star (E.star (G.star R))))))):=((up5 B C D E G H R).under A).trans (Ass.imp.swap A H _)
theorem Ass.imp.up4' (A B C D E R:Ass):(A.star (B.star (C.star (D.star (E.star R))))).imp (E.star (A.star (B.star (C.star (D.star R))))):=up4 A B C D E R
section
variable {w0 w:World} {C:Ass} {p pb pd:Nat} {most:Int} {ts:List ByteArray} {d:Dk} {m:Int} {J:Jn}
theorem jroomB (h:At w0 ((BD pb pd most ts d).star ((JO p pb pd m J).star C)) w) (hb:JOk ts d m J) :
    Calls Tryz.prog 30 #[.pointer (some ⟨p,0,none⟩)] w fun e w'=>e = .returned (.int .i64 (m - J.all.length))/\Below w.heap.size w w':=by
  obtain ⟨F,⟨F1,F2,rfl,h1,_,_⟩,_,_⟩:=h.fuse
  obtain ⟨v,hv,h2⟩:=(Becomes.refl h1).exv
  have:=hb.ok.most
  have:=hb.fit
  have:=hb.m
  exact (jroom h2 (by omega) (by omega) (by omega)).mono fun _ _ ⟨a,b⟩=>⟨a,b⟩
theorem ysame {qb qd:Nat} {d2:Dk} (h:At w0 ((BD pb pd most ts d).star ((RB qb qd most ts d2).star C)) w):Calls Tryz.prog 33 #[.pointer (some ⟨pb,0,none⟩), .pointer (some ⟨qb,0,none⟩)] w fun e w'=>e = .returned (.bool true)/\Below w.heap.size w w':=by
  obtain ⟨F,⟨F1,F2,rfl,⟨G1,_,_,hb,_⟩,⟨H1,_,_,⟨I1,_,_,hr,_⟩,_⟩,_⟩,_,_⟩:=h
  exact bsame11 pb qb most ts w _ _ hb hr
end
theorem emp_add (X:Ass):X.imp (X.star emp):=fun w F h=>⟨F,⟨F,[],by simp,h,rfl,by simp⟩,fun _=>Iff.rfl⟩
set_option maxRecDepth 100000 in
set_option maxHeartbeats 16000000 in
theorem journals_ok (n : Nat) (most : Int) (ao : Option Addr) (cap : Nat) (cs : List Act11) (w : World) (hg : Gd w) (hA : AArg11 w ao cs) (h1 : 1 ≤ n) (h2 : n ≤ 256) (m1 : 1 ≤ most) (m2 : most ≤ 65536) :
    Calls Tryz.prog 3 #[.int .i64 n, .int .i64 most, .slice ao cs.length cap] w fun e w'=>e = .returned (.bool true)/\Below w.heap.size w w':=by
  have hfew:=hA.few
  have HA:=Lib.hid hA
  have HG:=Lib.hid hg
  have hok0:(Dk.new n).Ok:=Dk.ok_new h1 h2
  have hkn:(Dk.new n).kept.length=n:=by simp [Dk.new]
  clear hA
  by_cases hE:joE most [] (Dk.new n)=0
  · obtain ⟨hI0,h3n⟩:=JIv.new n hE
    have HOp:=Lib.hid (fun pb pd qb qd W (h:At w ((BD pb pd most [] (Dk.new n)).star ((RB qb qd most [] (Dk.new n)).star emp)) W)=>(show Calls Tryz.prog 13 #[.pointer (some ⟨pb,0,none⟩), .pointer (some ⟨qb,0,none⟩), .pointer (some ⟨pd,0,none⟩), .pointer (some ⟨qd,0,none⟩)] W (fun e w' => ∃ p q:Nat,e = .returned (.tuple #[.pointer (some ⟨p,0,none⟩), .pointer (some ⟨q,0,none⟩), .bool true])/\At w (YY pb pd p qb qd q most ((n - 2:Nat):Int) (joT most [] (Dk.new n)) (joD most [] (Dk.new n)) (joJ most [] (Dk.new n)) (joT most [] (Dk.new n)) (joD most [] (Dk.new n)) (joJ most [] (Dk.new n)) emp) w') from by
      have:=opened_yes emp_good hg h hok0 (by simp) (by simp [Dk.new]) hE
      rw [hkn] at this
      exact this))
    have HI0:=Lib.hid hI0
    generalize joT most [] (Dk.new n)=T0 at *
    generalize joD most [] (Dk.new n)=D0 at *
    generalize joJ most [] (Dk.new n)=J0 at *
    clear hg hok0 hkn hE hI0
    go_enter Tryz.func3,Tryz.ntmps3
    go_wp2_with (first
      | (go_at_call 10; (with_reducible refine (twin_none11 most _ m1 m2).mono ?_); rintro e w1 ⟨pb,qb,rfl,hb⟩)
      | (go_at_call 11; (with_reducible refine (pair_ok11 n _ h1 h2).mono ?_); rintro e w2 ⟨pd,qd,rfl,hp⟩; have hS:=(lawstart hb hp).imp (((Ass.imp.swap _ _ _).trans (emp_add _)).under _); clear hb hp)
      | (go_at_call 13; (with_reducible refine (HOp.out _ _ _ _ _ hS).mono ?_); rintro e w3 ⟨p1,q1,rfl,hS3⟩))
    clear hS HOp
    go_loopw [11,12,14] (fun x11 x12 x14 wr => ∃ (i p q:Nat) (T:List ByteArray) (D:Dk) (J:Jn),i<=cs.length/\i<=50/\x14 = .int .i64 (i:Int)/\x11 = .pointer (some ⟨p,0,none⟩)/\x12 = .pointer (some ⟨q,0,none⟩)/\JIv D J n i/\At w (YY pb pd p qb qd q most ((n - 2:Nat):Int) T D J T D J emp) wr) (fun _ _ x14 _=>51 - (intOf x14).toNat)
    case atStart=>exact ⟨0,p1,q1,T0,D0,J0,Nat.zero_le _,by omega,rfl,rfl,rfl,HI0.out,hS3⟩
    case round =>
      clear hS3 HI0
      obtain ⟨i,p,q,T,D,J,hil,hi50,rfl,rfl,rfl,hI,hS⟩:=hrel
      by_cases hgo:i<cs.length/\i<50
      · obtain ⟨hlt,hlt50⟩:=hgo
        have hI50:(i:Int)<50:=by omega
        have hIl:(i:Int)<(cs.length:Int):=by omega
        have hAb:=HA.out.below hS.bel
        obtain ⟨bb,off,rfl,c0,c1,c2',c3,c4,c5⟩:=hAb.cell i hlt
        obtain ⟨hev,hec,hen⟩:=HA.out.ev i hlt
        obtain ⟨hbd2,hbd3⟩:=HA.out.bd i hlt
        obtain ⟨a,ha⟩ : ∃ a,cs.getD i .none=a:=⟨_,rfl⟩
        rw [ha] at c0 c1 c2' c3 c4 c5 hev hec hen hbd2 hbd3
        clear ha hAb
        obtain ⟨ak,aao,an,acap,aes,am,at_,ai,as_⟩:=a
        simp only at c0 c1 c2' c3 c4 c5 hev hec hen hbd2 hbd3
        obtain rfl:an=aes.length:=hev.len
        have hjb:=YY.jok hS hI h3n (by omega)
        have hS1:=hS.hold (YY_good emp_good) #[.int .i64 ak, .slice aao aes.length acap, .int .i64 am, .int .i64 at_, .int .i64 ai, .string as_] 38
        have HLd:=Lib.hid ((lend (cap:=acap) (esin_low hev hS1.bel (fun k hk=>by cases hk)) hec hen).mono (R':=fun e w' => ∃ g c2,e = .returned (.slice (some ⟨g,0,none⟩) aes.length c2)/\aes.length+2<=c2/\At w (YL pb pd p qb qd q most n T D J T D J g c2 wr.heap.size ak aao acap am at_ ai as_ aes) w') fun e w' ⟨g,c2,x1,x2,x3⟩=>⟨g,c2,x1,x2,(At.add ((ownA_good _ _ _).star (YY_good emp_good)) hS1 (x3.imp (emp_right _))).imp (lain _ _ _ _ _ _)⟩)
        clear hS1
        have HI:=Lib.hid hI
        have HEs:=Lib.hid hev
        have HEc:=Lib.hid hec
        have HEn:=Lib.hid hen
        have hmk:(aes++mks).length<=2199023255552:=by rw [List.length_append]; show aes.length+2<=_; omega
        clear hI hev hec hen hS
        have hkind:ak<5\/ak=5\/ak=8\/ak=10\/ak=9\/(ak=7/\joE most T D=0)\/(ak=7/\joE most T D≠0)\/(ak=6/\joE most T (D.cr am at_).rs=0)\/(ak=6/\joE most T (D.cr am at_).rs≠0)\/((¬ ak<5 ∧ ¬ ak=5 ∧ ¬ ak=8 ∧ ¬ ak=10 ∧ ¬ ak=9 ∧ ¬ ak=7 ∧ ¬ ak=6)/\joE most T (D.cr am at_)=0)\/((¬ ak<5 ∧ ¬ ak=5 ∧ ¬ ak=8 ∧ ¬ ak=10 ∧ ¬ ak=9 ∧ ¬ ak=7 ∧ ¬ ak=6)/\joE most T (D.cr am at_)≠0):=by
          by_cases x7:joE most T D=0 <;> by_cases x6:joE most T (D.cr am at_).rs=0 <;> by_cases xx:joE most T (D.cr am at_)=0 <;> omega
        rcases hkind with hk | hk | hk | hk | hk | hk | hk | hk | hk | hk | hk
        case' inl =>
          have hk:=hk
          have hI2:=(HI.out).append (most:=most) (T:=T) h2 aes
          obtain ⟨E,hE⟩ : ∃ E,jpE most T J D aes=E:=⟨_,rfl⟩
          have hP:=fun g c2 W (h:At w (YL pb pd p qb qd q most n T D J T D J g c2 wr.heap.size ak aao acap am at_ ai as_ aes) W)=>yappp ((ownA_good _ _ _).star emp_good) hmk hjb h
          rw [hE] at hP
          have hQ:=fun g c2 W (h:At w (YL pb pd p qb qd q most n (jpT most T J D aes) (apD most T J D aes) (apJ most T J D aes) T D J g c2 wr.heap.size ak aao acap am at_ ai as_ aes) W)=>yappq ((rowE_good _ _ _ _ _).star ((ownA_good _ _ _).star emp_good)) HEs.out HEc.out hjb h
          rw [hE] at hQ
          generalize jpT most T J D aes=T2 at *
          generalize apD most T J D aes=D2 at *
          generalize apJ most T J D aes=J2 at *
          have HP:=Lib.hid hP
          have HQ:=Lib.hid (hQ)
          have HI2:=Lib.hid hI2
          clear hP hQ hE hI2 hjb
          go_wp2_with (first
            | (go_at_call 14; (with_reducible refine HLd.out.mono ?_); rintro e w3 ⟨g,c2,rfl,hc2,hY⟩; have HKc:=Lib.hid hc2; obtain ⟨a0,a1,a2,a3,a4,a5⟩:=YY.act hY)
            | (go_at_call 15; (with_reducible refine (HP.out _ _ _ hY).mono ?_); rintro e w4 ⟨rfl,hY1⟩; replace hY:=hY1; clear hY1; obtain ⟨a0,a1,a2,a3,a4,a5⟩:=YY.act hY)
            | (go_at_call 16; (with_reducible refine (lnum _ _).mono ?_); rintro e w9 ⟨rfl,rfl⟩))
          replace HQ:=Lib.hid (HQ.out g c2)
          refine region_held (S:=fun Z8 => ∀ i,Z8.cell? ⟨wr.heap.size,i,none⟩=(#[.int .i64 ak, .slice aao aes.length acap, .int .i64 am, .int .i64 at_, .int .i64 ai, .string as_]:Array Value)[i]?) 7 [false,false,false,false,false,false,false] rfl rfl (by kernel_rfl) fun V0 hW => ?_
          have hV0:=hY.lay (YY_good ((rowE_good _ _ _ _ _).star ((ownA_good _ _ _).star emp_good))) (bdrew _)
          rw [<-hW] at hV0
          have hC0:=hV0.drop.drop.drop.drop.drop.own.1
          clear hW hY
          refine run_go [(0,yja0,(some 127)),(2,yja2,(some 129)),(3,yja3,(some 130)),(4,yja4,(some 131))] (by kernel_rfl) ?_
          iterate 4 (refine run_take ?_ rfl rfl (fun _ _ _ h=>h) (Or.inl ⟨by rfl, ?_⟩) hC0 ?_; rotate_left; (· (intro w0 hy0; have y1:=hy0 1; clear hy0; (go_simp <;> with_reducible rfl))); simp only [Act.put,List.setIfInBounds_toArray,List.set_cons_zero,List.set_cons_succ])
          refine run_end ?_
          refine held_call 1 yja1 (some 128) (.int .i64 E) (fun Z9=>V0=Z9) 16 #[.int .i64 E] (by kernel_rfl) rfl rfl (by rfl) (jx_Num (.tmp 127) rfl rfl) ((lnum _ _).mono fun e w' ⟨e1,e2⟩=>⟨e1,e2⟩) (fun _ e=>e ▸ hC0) ?_
          rintro _ rfl
          simp only [Act.put,List.setIfInBounds_toArray,List.set_cons_zero,List.set_cons_succ]
          refine held_call 5 yja5 (some 132) (.int .i64 E) (fun Z9=>At w (YL pb pd p qb qd q most n T2 D2 J2 T2 D2 J2 g c2 wr.heap.size ak aao acap am at_ ai as_ aes) Z9) 17 #[.pointer (some ⟨q,0,none⟩), .slice aao aes.length acap] (by kernel_rfl) rfl rfl (by rfl) (jy_App (.tmp 129) (.tmp 131) rfl rfl rfl) (HQ.out _ hV0) (fun _ h=>h.drop.drop.drop.drop.drop.own.1) ?_
          intro V1 hV1
          simp only [Act.put,List.setIfInBounds_toArray,List.set_cons_zero,List.set_cons_succ]
          have hC1:=hV1.drop.drop.drop.drop.drop.own.1
          refine held_take 6 yja6 (some 133) ?_ rfl rfl (by kernel_rfl) (by kernel_rfl) (by kernel_rfl) (fun _ _ _ h=>h) (Or.inl ⟨by rfl, ?_⟩) hC1 ?_
          rotate_left
          · intro w0 hy0; have y1:=hy0 1; clear hy0; (go_simp <;> with_reducible rfl)
          simp only [Act.put,List.setIfInBounds_toArray,List.set_cons_zero,List.set_cons_succ]
          refine wpAnyH_done (by kernel_rfl) ?_ _
          have hY:=hV1
          clear hV1 hC0 hC1
          have hZ : ∃ T2 D2 J2 ak0,JIv D2 J2 n (i+1)/\At w (YL pb pd p qb qd q most n T2 D2 J2 T2 D2 J2 g c2 wr.heap.size ak0 aao acap am at_ ai as_ aes) _:=⟨T2,D2,J2,_,HI2.out,hY⟩
          clear hY
          clear HP HQ HI2
        case' inr.inl =>
          subst hk
          have hI2:=(HI.out).write (most:=most) (T:=T) h2 aes
          obtain ⟨E,hE⟩ : ∃ E,jpE most T J D aes=E:=⟨_,rfl⟩
          have hP:=fun g c2 W (h:At w (YL pb pd p qb qd q most n T D J T D J g c2 wr.heap.size 5 aao acap am at_ ai as_ aes) W)=>ywrtp ((ownA_good _ _ _).star emp_good) hmk hjb h
          rw [hE] at hP
          have hQ:=fun g c2 W (h:At w (YL pb pd p qb qd q most n (jpT most T J D aes) (wtD most T J D aes) (wtJ most T J D aes) T D J g c2 wr.heap.size 5 aao acap am at_ ai as_ aes) W)=>ywrtq (cap:=acap) ((rowE_good _ _ _ _ _).star ((ownA_good _ _ _).star emp_good)) HEs.out hjb h
          rw [hE] at hQ
          generalize jpT most T J D aes=T2 at *
          generalize wtD most T J D aes=D2 at *
          generalize wtJ most T J D aes=J2 at *
          have HP:=Lib.hid hP
          have HQ:=Lib.hid (hQ)
          have HI2:=Lib.hid hI2
          clear hP hQ hE hI2 hjb
          go_wp2_with (first
            | (go_at_call 14; (with_reducible refine HLd.out.mono ?_); rintro e w3 ⟨g,c2,rfl,hc2,hY⟩; have HKc:=Lib.hid hc2; obtain ⟨a0,a1,a2,a3,a4,a5⟩:=YY.act hY)
            | (go_at_call 18; (with_reducible refine (HP.out _ _ _ hY).mono ?_); rintro e w4 ⟨rfl,hY1⟩; replace hY:=hY1; clear hY1; obtain ⟨a0,a1,a2,a3,a4,a5⟩:=YY.act hY)
            | (go_at_call 16; (with_reducible refine (lnum _ _).mono ?_); rintro e w9 ⟨rfl,rfl⟩))
          replace HQ:=Lib.hid (HQ.out g c2)
          refine region_held (S:=fun Z8 => ∀ i,Z8.cell? ⟨wr.heap.size,i,none⟩=(#[.int .i64 5, .slice aao aes.length acap, .int .i64 am, .int .i64 at_, .int .i64 ai, .string as_]:Array Value)[i]?) 7 [false,false,false,false,false,false,false] rfl rfl (by kernel_rfl) fun V0 hW => ?_
          have hV0:=hY.lay (YY_good ((rowE_good _ _ _ _ _).star ((ownA_good _ _ _).star emp_good))) (bdrew _)
          rw [<-hW] at hV0
          have hC0:=hV0.drop.drop.drop.drop.drop.own.1
          clear hW hY
          refine run_go [(0,yjb0,(some 141)),(2,yjb2,(some 143)),(3,yjb3,(some 144)),(4,yjb4,(some 145))] (by kernel_rfl) ?_
          iterate 4 (refine run_take ?_ rfl rfl (fun _ _ _ h=>h) (Or.inl ⟨by rfl, ?_⟩) hC0 ?_; rotate_left; (· (intro w0 hy0; have y1:=hy0 1; clear hy0; (go_simp <;> with_reducible rfl))); simp only [Act.put,List.setIfInBounds_toArray,List.set_cons_zero,List.set_cons_succ])
          refine run_end ?_
          refine held_call 1 yjb1 (some 142) (.int .i64 E) (fun Z9=>V0=Z9) 16 #[.int .i64 E] (by kernel_rfl) rfl rfl (by rfl) (jx_Num (.tmp 141) rfl rfl) ((lnum _ _).mono fun e w' ⟨e1,e2⟩=>⟨e1,e2⟩) (fun _ e=>e ▸ hC0) ?_
          rintro _ rfl
          simp only [Act.put,List.setIfInBounds_toArray,List.set_cons_zero,List.set_cons_succ]
          refine held_call 5 yjb5 (some 146) (.int .i64 E) (fun Z9=>At w (YL pb pd p qb qd q most n T2 D2 J2 T2 D2 J2 g c2 wr.heap.size 5 aao acap am at_ ai as_ aes) Z9) 19 #[.pointer (some ⟨q,0,none⟩), .slice aao aes.length acap] (by kernel_rfl) rfl rfl (by rfl) (jy_Wrt (.tmp 143) (.tmp 145) rfl rfl rfl) (HQ.out _ hV0) (fun _ h=>h.drop.drop.drop.drop.drop.own.1) ?_
          intro V1 hV1
          simp only [Act.put,List.setIfInBounds_toArray,List.set_cons_zero,List.set_cons_succ]
          have hC1:=hV1.drop.drop.drop.drop.drop.own.1
          refine held_take 6 yjb6 (some 147) ?_ rfl rfl (by kernel_rfl) (by kernel_rfl) (by kernel_rfl) (fun _ _ _ h=>h) (Or.inl ⟨by rfl, ?_⟩) hC1 ?_
          rotate_left
          · intro w0 hy0; have y1:=hy0 1; clear hy0; (go_simp <;> with_reducible rfl)
          simp only [Act.put,List.setIfInBounds_toArray,List.set_cons_zero,List.set_cons_succ]
          refine wpAnyH_done (by kernel_rfl) ?_ _
          have hY:=hV1
          clear hV1 hC0 hC1
          have hZ : ∃ T2 D2 J2 ak0,JIv D2 J2 n (i+1)/\At w (YL pb pd p qb qd q most n T2 D2 J2 T2 D2 J2 g c2 wr.heap.size ak0 aao acap am at_ ai as_ aes) _:=⟨T2,D2,J2,_,HI2.out,hY⟩
          clear hY
          clear HP HQ HI2
        case' inr.inr.inl =>
          subst hk
          have HCp:=Lib.hid (fun g c2 W (h:At w (YL pb pd p qb qd q most n T D J T D J g c2 wr.heap.size 8 aao acap am at_ ai as_ aes) W)=>yp ((rowE_good _ _ _ _ _).star ((ownA_good _ _ _).star emp_good)) (kpwrite pd D ai as_ (by have:=HI.out.wl; omega)) h)
          have HCq:=Lib.hid (fun g c2 W (h:At w (YL pb pd p qb qd q most n T (D.wr ai as_) J T D J g c2 wr.heap.size 8 aao acap am at_ ai as_ aes) W)=>yq ((rowE_good _ _ _ _ _).star ((ownA_good _ _ _).star emp_good)) (krwrite qd D ai as_ (by have:=HI.out.wl; omega)) h)
          clear hjb
          go_wp2_with (first
            | (go_at_call 14; (with_reducible refine HLd.out.mono ?_); rintro e w3 ⟨g,c2,rfl,hc2,hY⟩; have HKc:=Lib.hid hc2; obtain ⟨a0,a1,a2,a3,a4,a5⟩:=YY.act hY)
            | (go_at_call 20; (with_reducible refine (HCp.out _ _ _ hY).mono ?_); rintro e w4 ⟨rfl,hY1⟩; replace hY:=hY1; clear hY1; obtain ⟨a0,a1,a2,a3,a4,a5⟩:=YY.act hY)
            | (go_at_call 21; (with_reducible refine (HCq.out _ _ _ hY).mono ?_); rintro e w5 ⟨rfl,hY1⟩; replace hY:=hY1; clear hY1; obtain ⟨a0,a1,a2,a3,a4,a5⟩:=YY.act hY)
            | (go_at_call 16; (with_reducible refine (lnum _ _).mono ?_); rintro e w9 ⟨rfl,rfl⟩))
          have hZ : ∃ T2 D2 J2 ak0,JIv D2 J2 n (i+1)/\At w (YL pb pd p qb qd q most n T2 D2 J2 T2 D2 J2 g c2 wr.heap.size ak0 aao acap am at_ ai as_ aes) _:=⟨T,(D.wr ai as_),J,_,(HI.out).wr ai as_,hY⟩
          clear hY
          clear HCp HCq
        case' inr.inr.inr.inl =>
          subst hk
          have HRp:=Lib.hid (fun g c2 W (h:At w (YL pb pd p qb qd q most n T D J T D J g c2 wr.heap.size 10 aao acap am at_ ai as_ aes) W)=>yp ((rowE_good _ _ _ _ _).star ((ownA_good _ _ _).star emp_good)) (kprestart pd D) h)
          have HRq:=Lib.hid (fun g c2 W (h:At w (YL pb pd p qb qd q most n T D.rs J T D J g c2 wr.heap.size 10 aao acap am at_ ai as_ aes) W)=>yq ((rowE_good _ _ _ _ _).star ((ownA_good _ _ _).star emp_good)) (krrestart qd D) h)
          clear hjb
          go_wp2_with (first
            | (go_at_call 14; (with_reducible refine HLd.out.mono ?_); rintro e w3 ⟨g,c2,rfl,hc2,hY⟩; have HKc:=Lib.hid hc2; obtain ⟨a0,a1,a2,a3,a4,a5⟩:=YY.act hY)
            | (go_at_call 22; (with_reducible refine (HRp.out _ _ _ hY).mono ?_); rintro e w4 ⟨rfl,hY1⟩; replace hY:=hY1; clear hY1; obtain ⟨a0,a1,a2,a3,a4,a5⟩:=YY.act hY)
            | (go_at_call 23; (with_reducible refine (HRq.out _ _ _ hY).mono ?_); rintro e w5 ⟨rfl,hY1⟩; replace hY:=hY1; clear hY1; obtain ⟨a0,a1,a2,a3,a4,a5⟩:=YY.act hY)
            | (go_at_call 16; (with_reducible refine (lnum _ _).mono ?_); rintro e w9 ⟨rfl,rfl⟩))
          have hZ : ∃ T2 D2 J2 ak0,JIv D2 J2 n (i+1)/\At w (YL pb pd p qb qd q most n T2 D2 J2 T2 D2 J2 g c2 wr.heap.size ak0 aao acap am at_ ai as_ aes) _:=⟨T,D.rs,J,_,(HI.out).rs.next,hY⟩
          clear hY
          clear HRp HRq
        case' inr.inr.inr.inr.inl =>
          subst hk
          have HCp:=Lib.hid (fun g c2 W (h:At w (YL pb pd p qb qd q most n T D J T D J g c2 wr.heap.size 9 aao acap am at_ ai as_ aes) W)=>yp ((rowE_good _ _ _ _ _).star ((ownA_good _ _ _).star emp_good)) (kpcrash pd D am at_ hbd2 hbd3) h)
          have HCq:=Lib.hid (fun g c2 W (h:At w (YL pb pd p qb qd q most n T (D.cr am at_) J T D J g c2 wr.heap.size 9 aao acap am at_ ai as_ aes) W)=>yq ((rowE_good _ _ _ _ _).star ((ownA_good _ _ _).star emp_good)) (krcrash qd D am at_ hbd2 hbd3) h)
          clear hjb
          go_wp2_with (first
            | (go_at_call 14; (with_reducible refine HLd.out.mono ?_); rintro e w3 ⟨g,c2,rfl,hc2,hY⟩; have HKc:=Lib.hid hc2; obtain ⟨a0,a1,a2,a3,a4,a5⟩:=YY.act hY)
            | (go_at_call 24; (with_reducible refine (HCp.out _ _ _ hY).mono ?_); rintro e w4 ⟨rfl,hY1⟩; replace hY:=hY1; clear hY1; obtain ⟨a0,a1,a2,a3,a4,a5⟩:=YY.act hY)
            | (go_at_call 25; (with_reducible refine (HCq.out _ _ _ hY).mono ?_); rintro e w5 ⟨rfl,hY1⟩; replace hY:=hY1; clear hY1; obtain ⟨a0,a1,a2,a3,a4,a5⟩:=YY.act hY)
            | (go_at_call 16; (with_reducible refine (lnum _ _).mono ?_); rintro e w9 ⟨rfl,rfl⟩))
          have hS8:=((hY.imp (up4 _ _ _ _ _ _)).drop.imp (up4 _ _ _ _ _ _)).drop
          clear hY
          go_round
          case rel=>exact ⟨i+1,p,q,T,D.cr am at_,J,by omega,by omega,by go_num,rfl,rfl,((HI.out).cr am at_).next,hS8⟩
          case measure=>simp [intOf]; omega
        case' inr.inr.inr.inr.inr.inl =>
          obtain ⟨hk,hE⟩:=hk
          have HE:=Lib.hid hE
          clear hE
          subst hk
          have HIv:=Lib.hid (show JIv D J n i from HI.out)
          have HOp:=Lib.hid (fun g c2 W (h:At w (YL pb pd p qb qd q most n T D J T D J g c2 wr.heap.size 7 aao acap am at_ ai as_ aes) W)=>(show Calls Tryz.prog 13 #[.pointer (some ⟨pb,0,none⟩), .pointer (some ⟨qb,0,none⟩), .pointer (some ⟨pd,0,none⟩), .pointer (some ⟨qd,0,none⟩)] W (fun e w' => ∃ p2 q2:Nat,e = .returned (.tuple #[.pointer (some ⟨p2,0,none⟩), .pointer (some ⟨q2,0,none⟩), .bool true])/\At w (YL pb pd p2 qb qd q2 most n (joT most T D) (joD most T D) (joJ most T D) (joT most T D) (joD most T D) (joJ most T D) g c2 wr.heap.size 7 aao acap am at_ ai as_ aes) w') from by
            have hk:=YY.known h
            have:=yopen_yes ((rowE_good _ _ _ _ _).star ((ownA_good _ _ _).star emp_good)) HG.out hk.1 (by omega) (by have:=HIv.out.wl; omega) HE.out h
            rw [HIv.out.kl] at this
            exact this))
          clear hjb
          go_wp2_with (first
            | (go_at_call 14; (with_reducible refine HLd.out.mono ?_); rintro e w3 ⟨g,c2,rfl,hc2,hY⟩; have HKc:=Lib.hid hc2; obtain ⟨a0,a1,a2,a3,a4,a5⟩:=YY.act hY)
            | (go_at_call 13; (with_reducible refine (HOp.out _ _ _ hY).mono ?_); rintro e w6 ⟨p,q,rfl,hY1⟩; replace hY:=hY1; clear hY1)
            | (go_at_call 16; (with_reducible refine (lnum _ _).mono ?_); rintro e w9 ⟨rfl,rfl⟩))
          have hZ : ∃ T2 D2 J2 ak0,JIv D2 J2 n (i+1)/\At w (YL pb pd p qb qd q most n T2 D2 J2 T2 D2 J2 g c2 wr.heap.size ak0 aao acap am at_ ai as_ aes) _:=⟨(joT most T D),(joD most T D),(joJ most T D),_,(HIv.out).open HE.out,hY⟩
          clear hY
          clear HOp HIv HE
        case' inr.inr.inr.inr.inr.inr.inl =>
          obtain ⟨hk,hE⟩:=hk
          have HE:=Lib.hid hE
          clear hE
          subst hk
          have HIv:=Lib.hid (show JIv D J n i from HI.out)
          have HOp:=Lib.hid (fun g c2 W (h:At w (YL pb pd p qb qd q most n T D J T D J g c2 wr.heap.size 7 aao acap am at_ ai as_ aes) W)=>(show Calls Tryz.prog 13 #[.pointer (some ⟨pb,0,none⟩), .pointer (some ⟨qb,0,none⟩), .pointer (some ⟨pd,0,none⟩), .pointer (some ⟨qd,0,none⟩)] W (fun e w'=>e = .returned (.tuple #[.pointer none, .pointer none, .bool true])/\At w (YL pb pd p qb qd q most n (joT most T D) D J (joT most T D) D J g c2 wr.heap.size 7 aao acap am at_ ai as_ aes) w') from by
            have hk:=YY.known h
            exact yopen_no ((rowE_good _ _ _ _ _).star ((ownA_good _ _ _).star emp_good)) HG.out hk.1 (by omega) (by have:=HIv.out.wl; omega) HE.out h))
          clear hjb
          go_wp2_with (first
            | (go_at_call 14; (with_reducible refine HLd.out.mono ?_); rintro e w3 ⟨g,c2,rfl,hc2,hY⟩; have HKc:=Lib.hid hc2; obtain ⟨a0,a1,a2,a3,a4,a5⟩:=YY.act hY)
            | (go_at_call 13; (with_reducible refine (HOp.out _ _ _ hY).mono ?_); rintro e w6 ⟨rfl,hY1⟩; replace hY:=hY1; clear hY1)
            | (go_at_call 16; (with_reducible refine (lnum _ _).mono ?_); rintro e w9 ⟨rfl,rfl⟩))
          have hZ : ∃ T2 D2 J2 ak0,JIv D2 J2 n (i+1)/\At w (YL pb pd p qb qd q most n T2 D2 J2 T2 D2 J2 g c2 wr.heap.size ak0 aao acap am at_ ai as_ aes) _:=⟨(joT most T D),D,J,_,(HIv.out).next,hY⟩
          clear hY
          clear HOp HIv HE
        case' inr.inr.inr.inr.inr.inr.inr.inl =>
          obtain ⟨hk,hE⟩:=hk
          have HE:=Lib.hid hE
          clear hE
          subst hk
          have HCp:=Lib.hid (fun g c2 W (h:At w (YL pb pd p qb qd q most n T D J T D J g c2 wr.heap.size 6 aao acap am at_ ai as_ aes) W)=>yp ((rowE_good _ _ _ _ _).star ((ownA_good _ _ _).star emp_good)) (kpcrash pd D am at_ hbd2 hbd3) h)
          have HCq:=Lib.hid (fun g c2 W (h:At w (YL pb pd p qb qd q most n T (D.cr am at_) J T D J g c2 wr.heap.size 6 aao acap am at_ ai as_ aes) W)=>yq ((rowE_good _ _ _ _ _).star ((ownA_good _ _ _).star emp_good)) (krcrash qd D am at_ hbd2 hbd3) h)
          have HRp:=Lib.hid (fun g c2 W (h:At w (YL pb pd p qb qd q most n T (D.cr am at_) J T (D.cr am at_) J g c2 wr.heap.size 6 aao acap am at_ ai as_ aes) W)=>yp ((rowE_good _ _ _ _ _).star ((ownA_good _ _ _).star emp_good)) (kprestart pd (D.cr am at_)) h)
          have HRq:=Lib.hid (fun g c2 W (h:At w (YL pb pd p qb qd q most n T (D.cr am at_).rs J T (D.cr am at_) J g c2 wr.heap.size 6 aao acap am at_ ai as_ aes) W)=>yq ((rowE_good _ _ _ _ _).star ((ownA_good _ _ _).star emp_good)) (krrestart qd (D.cr am at_)) h)
          have HIv:=Lib.hid (show JIv (D.cr am at_).rs J n i from ((HI.out).cr am at_).rs)
          have HOp:=Lib.hid (fun g c2 W (h:At w (YL pb pd p qb qd q most n T (D.cr am at_).rs J T (D.cr am at_).rs J g c2 wr.heap.size 6 aao acap am at_ ai as_ aes) W)=>(show Calls Tryz.prog 13 #[.pointer (some ⟨pb,0,none⟩), .pointer (some ⟨qb,0,none⟩), .pointer (some ⟨pd,0,none⟩), .pointer (some ⟨qd,0,none⟩)] W (fun e w' => ∃ p2 q2:Nat,e = .returned (.tuple #[.pointer (some ⟨p2,0,none⟩), .pointer (some ⟨q2,0,none⟩), .bool true])/\At w (YL pb pd p2 qb qd q2 most n (joT most T (D.cr am at_).rs) (joD most T (D.cr am at_).rs) (joJ most T (D.cr am at_).rs) (joT most T (D.cr am at_).rs) (joD most T (D.cr am at_).rs) (joJ most T (D.cr am at_).rs) g c2 wr.heap.size 6 aao acap am at_ ai as_ aes) w') from by
            have hk:=YY.known h
            have:=yopen_yes ((rowE_good _ _ _ _ _).star ((ownA_good _ _ _).star emp_good)) HG.out hk.1 (by omega) (by have:=HIv.out.wl; omega) HE.out h
            rw [HIv.out.kl] at this
            exact this))
          clear hjb
          go_wp2_with (first
            | (go_at_call 14; (with_reducible refine HLd.out.mono ?_); rintro e w3 ⟨g,c2,rfl,hc2,hY⟩; have HKc:=Lib.hid hc2; obtain ⟨a0,a1,a2,a3,a4,a5⟩:=YY.act hY)
            | (go_at_call 24; (with_reducible refine (HCp.out _ _ _ hY).mono ?_); rintro e w4 ⟨rfl,hY1⟩; replace hY:=hY1; clear hY1; obtain ⟨a0,a1,a2,a3,a4,a5⟩:=YY.act hY)
            | (go_at_call 25; (with_reducible refine (HCq.out _ _ _ hY).mono ?_); rintro e w5 ⟨rfl,hY1⟩; replace hY:=hY1; clear hY1; obtain ⟨a0,a1,a2,a3,a4,a5⟩:=YY.act hY)
            | (go_at_call 22; (with_reducible refine (HRp.out _ _ _ hY).mono ?_); rintro e w4 ⟨rfl,hY1⟩; replace hY:=hY1; clear hY1; obtain ⟨a0,a1,a2,a3,a4,a5⟩:=YY.act hY)
            | (go_at_call 23; (with_reducible refine (HRq.out _ _ _ hY).mono ?_); rintro e w5 ⟨rfl,hY1⟩; replace hY:=hY1; clear hY1; obtain ⟨a0,a1,a2,a3,a4,a5⟩:=YY.act hY)
            | (go_at_call 13; (with_reducible refine (HOp.out _ _ _ hY).mono ?_); rintro e w6 ⟨p,q,rfl,hY1⟩; replace hY:=hY1; clear hY1)
            | (go_at_call 16; (with_reducible refine (lnum _ _).mono ?_); rintro e w9 ⟨rfl,rfl⟩))
          have hZ : ∃ T2 D2 J2 ak0,JIv D2 J2 n (i+1)/\At w (YL pb pd p qb qd q most n T2 D2 J2 T2 D2 J2 g c2 wr.heap.size ak0 aao acap am at_ ai as_ aes) _:=⟨(joT most T (D.cr am at_).rs),(joD most T (D.cr am at_).rs),(joJ most T (D.cr am at_).rs),_,(HIv.out).open HE.out,hY⟩
          clear hY
          clear HOp HIv HE HCp HCq HRp HRq
        case' inr.inr.inr.inr.inr.inr.inr.inr.inl =>
          obtain ⟨hk,hE⟩:=hk
          have HE:=Lib.hid hE
          clear hE
          subst hk
          have HCp:=Lib.hid (fun g c2 W (h:At w (YL pb pd p qb qd q most n T D J T D J g c2 wr.heap.size 6 aao acap am at_ ai as_ aes) W)=>yp ((rowE_good _ _ _ _ _).star ((ownA_good _ _ _).star emp_good)) (kpcrash pd D am at_ hbd2 hbd3) h)
          have HCq:=Lib.hid (fun g c2 W (h:At w (YL pb pd p qb qd q most n T (D.cr am at_) J T D J g c2 wr.heap.size 6 aao acap am at_ ai as_ aes) W)=>yq ((rowE_good _ _ _ _ _).star ((ownA_good _ _ _).star emp_good)) (krcrash qd D am at_ hbd2 hbd3) h)
          have HRp:=Lib.hid (fun g c2 W (h:At w (YL pb pd p qb qd q most n T (D.cr am at_) J T (D.cr am at_) J g c2 wr.heap.size 6 aao acap am at_ ai as_ aes) W)=>yp ((rowE_good _ _ _ _ _).star ((ownA_good _ _ _).star emp_good)) (kprestart pd (D.cr am at_)) h)
          have HRq:=Lib.hid (fun g c2 W (h:At w (YL pb pd p qb qd q most n T (D.cr am at_).rs J T (D.cr am at_) J g c2 wr.heap.size 6 aao acap am at_ ai as_ aes) W)=>yq ((rowE_good _ _ _ _ _).star ((ownA_good _ _ _).star emp_good)) (krrestart qd (D.cr am at_)) h)
          have HIv:=Lib.hid (show JIv (D.cr am at_).rs J n i from ((HI.out).cr am at_).rs)
          have HOp:=Lib.hid (fun g c2 W (h:At w (YL pb pd p qb qd q most n T (D.cr am at_).rs J T (D.cr am at_).rs J g c2 wr.heap.size 6 aao acap am at_ ai as_ aes) W)=>(show Calls Tryz.prog 13 #[.pointer (some ⟨pb,0,none⟩), .pointer (some ⟨qb,0,none⟩), .pointer (some ⟨pd,0,none⟩), .pointer (some ⟨qd,0,none⟩)] W (fun e w'=>e = .returned (.tuple #[.pointer none, .pointer none, .bool true])/\At w (YL pb pd p qb qd q most n (joT most T (D.cr am at_).rs) (D.cr am at_).rs J (joT most T (D.cr am at_).rs) (D.cr am at_).rs J g c2 wr.heap.size 6 aao acap am at_ ai as_ aes) w') from by
            have hk:=YY.known h
            exact yopen_no ((rowE_good _ _ _ _ _).star ((ownA_good _ _ _).star emp_good)) HG.out hk.1 (by omega) (by have:=HIv.out.wl; omega) HE.out h))
          clear hjb
          go_wp2_with (first
            | (go_at_call 14; (with_reducible refine HLd.out.mono ?_); rintro e w3 ⟨g,c2,rfl,hc2,hY⟩; have HKc:=Lib.hid hc2; obtain ⟨a0,a1,a2,a3,a4,a5⟩:=YY.act hY)
            | (go_at_call 24; (with_reducible refine (HCp.out _ _ _ hY).mono ?_); rintro e w4 ⟨rfl,hY1⟩; replace hY:=hY1; clear hY1; obtain ⟨a0,a1,a2,a3,a4,a5⟩:=YY.act hY)
            | (go_at_call 25; (with_reducible refine (HCq.out _ _ _ hY).mono ?_); rintro e w5 ⟨rfl,hY1⟩; replace hY:=hY1; clear hY1; obtain ⟨a0,a1,a2,a3,a4,a5⟩:=YY.act hY)
            | (go_at_call 22; (with_reducible refine (HRp.out _ _ _ hY).mono ?_); rintro e w4 ⟨rfl,hY1⟩; replace hY:=hY1; clear hY1; obtain ⟨a0,a1,a2,a3,a4,a5⟩:=YY.act hY)
            | (go_at_call 23; (with_reducible refine (HRq.out _ _ _ hY).mono ?_); rintro e w5 ⟨rfl,hY1⟩; replace hY:=hY1; clear hY1; obtain ⟨a0,a1,a2,a3,a4,a5⟩:=YY.act hY)
            | (go_at_call 13; (with_reducible refine (HOp.out _ _ _ hY).mono ?_); rintro e w6 ⟨rfl,hY1⟩; replace hY:=hY1; clear hY1)
            | (go_at_call 16; (with_reducible refine (lnum _ _).mono ?_); rintro e w9 ⟨rfl,rfl⟩))
          have hZ : ∃ T2 D2 J2 ak0,JIv D2 J2 n (i+1)/\At w (YL pb pd p qb qd q most n T2 D2 J2 T2 D2 J2 g c2 wr.heap.size ak0 aao acap am at_ ai as_ aes) _:=⟨(joT most T (D.cr am at_).rs),(D.cr am at_).rs,J,_,(HIv.out).next,hY⟩
          clear hY
          clear HOp HIv HE HCp HCq HRp HRq
        case' inr.inr.inr.inr.inr.inr.inr.inr.inr.inl =>
          obtain ⟨hk,hE⟩:=hk
          have HE:=Lib.hid hE
          clear hE
          obtain ⟨k1,k2,k3,k4,k5,k6,k7⟩:=hk
          have HCp:=Lib.hid (fun g c2 W (h:At w (YL pb pd p qb qd q most n T D J T D J g c2 wr.heap.size ak aao acap am at_ ai as_ aes) W)=>yp ((rowE_good _ _ _ _ _).star ((ownA_good _ _ _).star emp_good)) (kpcrash pd D am at_ hbd2 hbd3) h)
          have HCq:=Lib.hid (fun g c2 W (h:At w (YL pb pd p qb qd q most n T (D.cr am at_) J T D J g c2 wr.heap.size ak aao acap am at_ ai as_ aes) W)=>yq ((rowE_good _ _ _ _ _).star ((ownA_good _ _ _).star emp_good)) (krcrash qd D am at_ hbd2 hbd3) h)
          have HIv:=Lib.hid (show JIv (D.cr am at_) J n i from (HI.out).cr am at_)
          have HOp:=Lib.hid (fun g c2 W (h:At w (YL pb pd p qb qd q most n T (D.cr am at_) J T (D.cr am at_) J g c2 wr.heap.size ak aao acap am at_ ai as_ aes) W)=>(show Calls Tryz.prog 13 #[.pointer (some ⟨pb,0,none⟩), .pointer (some ⟨qb,0,none⟩), .pointer (some ⟨pd,0,none⟩), .pointer (some ⟨qd,0,none⟩)] W (fun e w' => ∃ p2 q2:Nat,e = .returned (.tuple #[.pointer (some ⟨p2,0,none⟩), .pointer (some ⟨q2,0,none⟩), .bool true])/\At w (YL pb pd p2 qb qd q2 most n (joT most T (D.cr am at_)) (joD most T (D.cr am at_)) (joJ most T (D.cr am at_)) (joT most T (D.cr am at_)) (joD most T (D.cr am at_)) (joJ most T (D.cr am at_)) g c2 wr.heap.size ak aao acap am at_ ai as_ aes) w') from by
            have hk:=YY.known h
            have:=yopen_yes ((rowE_good _ _ _ _ _).star ((ownA_good _ _ _).star emp_good)) HG.out hk.1 (by omega) (by have:=HIv.out.wl; omega) HE.out h
            rw [HIv.out.kl] at this
            exact this))
          clear hjb
          go_wp2_with (first
            | (go_at_call 14; (with_reducible refine HLd.out.mono ?_); rintro e w3 ⟨g,c2,rfl,hc2,hY⟩; have HKc:=Lib.hid hc2; obtain ⟨a0,a1,a2,a3,a4,a5⟩:=YY.act hY)
            | (go_at_call 24; (with_reducible refine (HCp.out _ _ _ hY).mono ?_); rintro e w4 ⟨rfl,hY1⟩; replace hY:=hY1; clear hY1; obtain ⟨a0,a1,a2,a3,a4,a5⟩:=YY.act hY)
            | (go_at_call 25; (with_reducible refine (HCq.out _ _ _ hY).mono ?_); rintro e w5 ⟨rfl,hY1⟩; replace hY:=hY1; clear hY1; obtain ⟨a0,a1,a2,a3,a4,a5⟩:=YY.act hY)
            | (go_at_call 13; (with_reducible refine (HOp.out _ _ _ hY).mono ?_); rintro e w6 ⟨p,q,rfl,hY1⟩; replace hY:=hY1; clear hY1)
            | (go_at_call 16; (with_reducible refine (lnum _ _).mono ?_); rintro e w9 ⟨rfl,rfl⟩))
          have hZ : ∃ T2 D2 J2 ak0,JIv D2 J2 n (i+1)/\At w (YL pb pd p qb qd q most n T2 D2 J2 T2 D2 J2 g c2 wr.heap.size ak0 aao acap am at_ ai as_ aes) _:=⟨(joT most T (D.cr am at_)),(joD most T (D.cr am at_)),(joJ most T (D.cr am at_)),_,(HIv.out).open HE.out,hY⟩
          clear hY
          clear HOp HIv HE HCp HCq
        case' inr.inr.inr.inr.inr.inr.inr.inr.inr.inr =>
          obtain ⟨hk,hE⟩:=hk
          have HE:=Lib.hid hE
          clear hE
          obtain ⟨k1,k2,k3,k4,k5,k6,k7⟩:=hk
          have HCp:=Lib.hid (fun g c2 W (h:At w (YL pb pd p qb qd q most n T D J T D J g c2 wr.heap.size ak aao acap am at_ ai as_ aes) W)=>yp ((rowE_good _ _ _ _ _).star ((ownA_good _ _ _).star emp_good)) (kpcrash pd D am at_ hbd2 hbd3) h)
          have HCq:=Lib.hid (fun g c2 W (h:At w (YL pb pd p qb qd q most n T (D.cr am at_) J T D J g c2 wr.heap.size ak aao acap am at_ ai as_ aes) W)=>yq ((rowE_good _ _ _ _ _).star ((ownA_good _ _ _).star emp_good)) (krcrash qd D am at_ hbd2 hbd3) h)
          have HIv:=Lib.hid (show JIv (D.cr am at_) J n i from (HI.out).cr am at_)
          have HOp:=Lib.hid (fun g c2 W (h:At w (YL pb pd p qb qd q most n T (D.cr am at_) J T (D.cr am at_) J g c2 wr.heap.size ak aao acap am at_ ai as_ aes) W)=>(show Calls Tryz.prog 13 #[.pointer (some ⟨pb,0,none⟩), .pointer (some ⟨qb,0,none⟩), .pointer (some ⟨pd,0,none⟩), .pointer (some ⟨qd,0,none⟩)] W (fun e w'=>e = .returned (.tuple #[.pointer none, .pointer none, .bool true])/\At w (YL pb pd p qb qd q most n (joT most T (D.cr am at_)) (D.cr am at_) J (joT most T (D.cr am at_)) (D.cr am at_) J g c2 wr.heap.size ak aao acap am at_ ai as_ aes) w') from by
            have hk:=YY.known h
            exact yopen_no ((rowE_good _ _ _ _ _).star ((ownA_good _ _ _).star emp_good)) HG.out hk.1 (by omega) (by have:=HIv.out.wl; omega) HE.out h))
          clear hjb
          go_wp2_with (first
            | (go_at_call 14; (with_reducible refine HLd.out.mono ?_); rintro e w3 ⟨g,c2,rfl,hc2,hY⟩; have HKc:=Lib.hid hc2; obtain ⟨a0,a1,a2,a3,a4,a5⟩:=YY.act hY)
            | (go_at_call 24; (with_reducible refine (HCp.out _ _ _ hY).mono ?_); rintro e w4 ⟨rfl,hY1⟩; replace hY:=hY1; clear hY1; obtain ⟨a0,a1,a2,a3,a4,a5⟩:=YY.act hY)
            | (go_at_call 25; (with_reducible refine (HCq.out _ _ _ hY).mono ?_); rintro e w5 ⟨rfl,hY1⟩; replace hY:=hY1; clear hY1; obtain ⟨a0,a1,a2,a3,a4,a5⟩:=YY.act hY)
            | (go_at_call 13; (with_reducible refine (HOp.out _ _ _ hY).mono ?_); rintro e w6 ⟨rfl,hY1⟩; replace hY:=hY1; clear hY1)
            | (go_at_call 16; (with_reducible refine (lnum _ _).mono ?_); rintro e w9 ⟨rfl,rfl⟩))
          have hZ : ∃ T2 D2 J2 ak0,JIv D2 J2 n (i+1)/\At w (YL pb pd p qb qd q most n T2 D2 J2 T2 D2 J2 g c2 wr.heap.size ak0 aao acap am at_ ai as_ aes) _:=⟨(joT most T (D.cr am at_)),(D.cr am at_),J,_,(HIv.out).next,hY⟩
          clear hY
          clear HOp HIv HE HCp HCq
        all_goals
          as_aux_lemma =>
            obtain ⟨T2,D2,J2,ak0,hI2,hY⟩:=hZ
            have hjb:=YY.jok hY hI2 h3n (by omega)
            have hJl:J2.all.length<=1000:=by have:=hI2.fit; omega
            have HI2:=Lib.hid hI2
            have HEv:=Lib.hid (fun W (h:At w (YL pb pd p qb qd q most n T2 D2 J2 T2 D2 J2 g c2 wr.heap.size ak0 aao acap am at_ ai as_ aes) W)=>(show Calls Tryz.prog 26 #[.pointer (some ⟨p,0,none⟩)] W (fun e w' => ∃ a7 c7 gv gc,e = .returned (.slice a7 J2.all.length c7)/\At w (XWA pb pd p qb qd q most ((n - 2:Nat):Int) T2 D2 J2 gv a7 gc c7 g c2 wr.heap.size ak0 aao acap am at_ ai as_ aes) w') from by
              refine (jlevents ((RB_good _ _ _ _ _).star ((GO_good _ _ _ _).star ((rowE_good _ _ _ _ _).star ((ownA_good _ _ _).star emp_good)))) h hJl).mono ?_
              rintro e w' ⟨a7,c7,rfl,hb⟩
              obtain ⟨gv,gc,hX⟩:=At.openG (hb.imp (up4 _ _ _ _ _ _))
              exact ⟨a7,c7,gv,gc,rfl,hX⟩))
            have hjb2:=hjb
            clear hI2 a0 a1 a2 a3 a4 a5
            go_wp2_with (go_at_call 26; (with_reducible refine (HEv.out _ hY).mono ?_); rintro e w7 ⟨a7,c7,gv,gc,rfl,hX⟩)
            have HXG:Ass.Good (XWA pb pd p qb qd q most ((n - 2:Nat):Int) T2 D2 J2 gv a7 gc c7 g c2 wr.heap.size ak0 aao acap am at_ ai as_ aes):=((ownA_good _ _ _).star ((rowE_good _ _ _ _ _).star ((rowE_good _ _ _ _ _).star ((BD_good _ _ _ _ _).star ((JO_good _ _ _ _ _).star ((RB_good _ _ _ _ _).star ((rowE_good _ _ _ _ _).star ((ownA_good _ _ _).star emp_good))))))))
            obtain ⟨bt,hbt⟩ : ∃ bt:Int,J2.boot=bt:=⟨_,rfl⟩
            obtain ⟨rm,hrm⟩ : ∃ rm:Int,((n - 2:Nat):Int) - (J2.all.length:Int)=rm:=⟨_,rfl⟩
            have HCL:=Lib.hid (fun Z (h:At w (XWA pb pd p qb qd q most ((n - 2:Nat):Int) T2 D2 J2 gv a7 gc c7 g c2 wr.heap.size ak0 aao acap am at_ ai as_ aes) Z)=>(show Z.cell? ⟨wr.heap.size,1,none⟩=some (.slice aao aes.length acap)/\Z.cell? ⟨q,5,none⟩=some (.slice gv J2.all.length gc)/\Z.cell? ⟨q,4,none⟩=some (.int .i64 bt) from ⟨h.drop.drop.drop.drop.drop.drop.drop.own.1 1,h.own.1 5,by rw [<-hbt]; exact h.own.1 4⟩))
            have HKp:=Lib.hid (fun Z (h:At w (XWA pb pd p qb qd q most ((n - 2:Nat):Int) T2 D2 J2 gv a7 gc c7 g c2 wr.heap.size ak0 aao acap am at_ ai as_ aes) Z)=>(kept (cap:=acap) ((h.imp (imp6 _ _ _ _ _ _ _ _))) (esin_low HEs.out h.bel (fun k hk=>by cases hk)) (by have:=HEn.out; omega) HKc.out).mono (R':=fun e w'=>e = .returned (.bool true)/\At w (XWA pb pd p qb qd q most ((n - 2:Nat):Int) T2 D2 J2 gv a7 gc c7 g c2 wr.heap.size ak0 aao acap am at_ ai as_ aes) w') fun e w' ⟨x1,x2⟩=>⟨x1,h.lay HXG x2⟩)
            have HSm:=Lib.hid (fun Z (h:At w (XWA pb pd p qb qd q most ((n - 2:Nat):Int) T2 D2 J2 gv a7 gc c7 g c2 wr.heap.size ak0 aao acap am at_ ai as_ aes) Z)=>(lsame_ev (c1:=c7) (c2:=gc) (esin_at (h.imp (Ass.imp.up2 _ _ _ _)) hJl) (esin_at h.drop hJl)).mono (R':=fun e w'=>e = .returned (.bool true)/\At w (XWA pb pd p qb qd q most ((n - 2:Nat):Int) T2 D2 J2 gv a7 gc c7 g c2 wr.heap.size ak0 aao acap am at_ ai as_ aes) w') fun e w' ⟨x1,x2⟩=>⟨by rw [x1]; simp,h.lay HXG x2⟩)
            have HBo:=Lib.hid (fun Z (h:At w (XWA pb pd p qb qd q most ((n - 2:Nat):Int) T2 D2 J2 gv a7 gc c7 g c2 wr.heap.size ak0 aao acap am at_ ai as_ aes) Z)=>(jlboot h.drop.drop.drop.drop).mono (R':=fun e w'=>e = .returned (.int .i64 bt)/\At w (XWA pb pd p qb qd q most ((n - 2:Nat):Int) T2 D2 J2 gv a7 gc c7 g c2 wr.heap.size ak0 aao acap am at_ ai as_ aes) w') fun e w' ⟨x1,x2⟩=>⟨by rw [x1,hbt],x2 ▸ h⟩)
            have HRp:=Lib.hid (fun Z (h:At w (XWA pb pd p qb qd q most ((n - 2:Nat):Int) T2 D2 J2 gv a7 gc c7 g c2 wr.heap.size ak0 aao acap am at_ ai as_ aes) Z)=>(jroomB (h.drop.drop.drop) hjb2).mono (R':=fun e w'=>e = .returned (.int .i64 rm)/\At w (XWA pb pd p qb qd q most ((n - 2:Nat):Int) T2 D2 J2 gv a7 gc c7 g c2 wr.heap.size ak0 aao acap am at_ ai as_ aes) w') fun e w' ⟨x1,x2⟩=>⟨by rw [x1,hrm],h.lay HXG x2⟩)
            have HRq:=Lib.hid (fun Z (h:At w (XWA pb pd p qb qd q most ((n - 2:Nat):Int) T2 D2 J2 gv a7 gc c7 g c2 wr.heap.size ak0 aao acap am at_ ai as_ aes) Z)=>(glroom ((At.shutG h).imp (Ass.imp.up4' _ _ _ _ _ _)) hjb2).mono (R':=fun e w'=>e = .returned (.int .i64 rm)/\At w (XWA pb pd p qb qd q most ((n - 2:Nat):Int) T2 D2 J2 gv a7 gc c7 g c2 wr.heap.size ak0 aao acap am at_ ai as_ aes) w') fun e w' ⟨x1,x2⟩=>⟨by rw [x1,hrm],h.lay HXG x2⟩)
            have HSp:=Lib.hid (fun Z (h:At w (XWA pb pd p qb qd q most ((n - 2:Nat):Int) T2 D2 J2 gv a7 gc c7 g c2 wr.heap.size ak0 aao acap am at_ ai as_ aes) Z)=>(spoil ((ownA_good _ _ _).star ((rowE_good _ _ _ _ _).star ((BD_good _ _ _ _ _).star ((JO_good _ _ _ _ _).star ((RB_good _ _ _ _ _).star ((rowE_good _ _ _ _ _).star ((ownA_good _ _ _).star emp_good))))))) (h.imp (Ass.imp.up2 _ _ _ _)) hJl).mono (R':=fun e w'=>e = .returned (.tuple #[])/\At w (YY pb pd p qb qd q most ((n - 2:Nat):Int) T2 D2 J2 T2 D2 J2 emp) w') fun e w' ⟨x1,x2⟩=>⟨x1,(((((At.shutG x2).imp (Ass.imp.dn3 _ _ _ _ _)).imp (up4 _ _ _ _ _ _)).drop).imp (up4 _ _ _ _ _ _)).drop⟩)
            clear hjb hjb2 hbt hrm HEv
            refine region_held (S:=fun Z8=>At w (XWA pb pd p qb qd q most ((n - 2:Nat):Int) T2 D2 J2 gv a7 gc c7 g c2 wr.heap.size ak0 aao acap am at_ ai as_ aes) Z8) 30 [false,false,false,false,false,false,false,false,false,false,false,false,false,false,false,false,false,false,false,false,false,false,false,false,false,false,false,false,false,false] rfl rfl (by kernel_rfl) fun V0 hW => ?_
            have hV0:=hX.lay HXG (bdrew _)
            rw [<-hW] at hV0
            clear hW hX
            refine run_go [(0,yjc0,(some 174)),(1,yjc1,(some 175)),(2,yjc2,(some 176))] (by kernel_rfl) ?_
            iterate 3 (refine run_take ?_ rfl rfl (fun _ _ _ h=>h) (Or.inl ⟨by rfl, ?_⟩) hV0 ?_; rotate_left; (· (intro w0 hy0; obtain ⟨y0,y1,y2⟩:=HCL.out _ hy0; clear hy0; (go_simp <;> with_reducible rfl))); simp only [Act.put,List.setIfInBounds_toArray,List.set_cons_zero,List.set_cons_succ])
            refine run_end ?_
            refine held_call 3 yjc3 (some 177) (.bool true) (fun Z9=>At w (XWA pb pd p qb qd q most ((n - 2:Nat):Int) T2 D2 J2 gv a7 gc c7 g c2 wr.heap.size ak0 aao acap am at_ ai as_ aes) Z9) 27 #[.slice (some ⟨g,0,none⟩) aes.length c2, .slice aao aes.length acap] (by kernel_rfl) rfl rfl (by rfl) (jy_Kept (.tmp 174) (.tmp 176) rfl rfl rfl) (HKp.out _ hV0) (fun _ h=>h) ?_
            intro V1 hV1
            simp only [Act.put,List.setIfInBounds_toArray,List.set_cons_zero,List.set_cons_succ]
            refine run_go [(4,yjc4,(some 178)),(5,yjc5,(some 179)),(6,yjc6,(some 180)),(7,yjc7,(some 181)),(8,yjc8,(some 182)),(9,yjc9,(some 183)),(10,yjc10,(some 184))] (by kernel_rfl) ?_
            iterate 7 (refine run_take ?_ rfl rfl (fun _ _ _ h=>h) (Or.inl ⟨by rfl, ?_⟩) hV1 ?_; rotate_left; (· (intro w0 hy0; obtain ⟨y0,y1,y2⟩:=HCL.out _ hy0; clear hy0; (go_simp <;> with_reducible rfl))); simp only [Act.put,List.setIfInBounds_toArray,List.set_cons_zero,List.set_cons_succ])
            refine run_end ?_
            refine held_call 11 yjc11 (some 185) (.bool true) (fun Z9=>At w (XWA pb pd p qb qd q most ((n - 2:Nat):Int) T2 D2 J2 gv a7 gc c7 g c2 wr.heap.size ak0 aao acap am at_ ai as_ aes) Z9) 28 #[.slice a7 J2.all.length c7, .slice gv J2.all.length gc] (by kernel_rfl) rfl rfl (by rfl) (jx_SameEvents (.tmp 180) (.tmp 184) rfl rfl rfl) (HSm.out _ hV1) (fun _ h=>h) ?_
            intro V2 hV2
            simp only [Act.put,List.setIfInBounds_toArray,List.set_cons_zero,List.set_cons_succ]
            refine run_go [(12,yjc12,(some 186)),(13,yjc13,(some 187)),(14,yjc14,(some 188)),(15,yjc15,(some 189)),(17,yjc17,(some 191)),(18,yjc18,(some 192)),(19,yjc19,(some 193)),(20,yjc20,(some 194))] (by kernel_rfl) ?_
            iterate 8 (refine run_take ?_ rfl rfl (fun _ _ _ h=>h) (Or.inl ⟨by rfl, ?_⟩) hV2 ?_; rotate_left; (· (intro w0 hy0; obtain ⟨y0,y1,y2⟩:=HCL.out _ hy0; clear hy0; (go_simp <;> with_reducible rfl))); simp only [Act.put,List.setIfInBounds_toArray,List.set_cons_zero,List.set_cons_succ])
            refine run_end ?_
            refine held_call 16 yjc16 (some 190) (.int .i64 bt) (fun Z9=>At w (XWA pb pd p qb qd q most ((n - 2:Nat):Int) T2 D2 J2 gv a7 gc c7 g c2 wr.heap.size ak0 aao acap am at_ ai as_ aes) Z9) 29 #[.pointer (some ⟨p,0,none⟩)] (by kernel_rfl) rfl rfl (by rfl) (jx_Boot (.tmp 189) rfl rfl) (HBo.out _ hV2) (fun _ h=>h) ?_
            intro V3 hV3
            simp only [Act.put,List.setIfInBounds_toArray,List.set_cons_zero,List.set_cons_succ]
            refine run_go [(21,yjc21,(some 195)),(22,yjc22,(some 196)),(23,yjc23,(some 197)),(24,yjc24,(some 198)),(26,yjc26,(some 200))] (by kernel_rfl) ?_
            iterate 5 (refine run_take ?_ rfl rfl (fun _ _ _ h=>h) (Or.inl ⟨by rfl, ?_⟩) hV3 ?_; rotate_left; (· (intro w0 hy0; obtain ⟨y0,y1,y2⟩:=HCL.out _ hy0; clear hy0; (go_simp <;> with_reducible rfl))); simp only [Act.put,List.setIfInBounds_toArray,List.set_cons_zero,List.set_cons_succ])
            refine run_end ?_
            refine held_call 25 yjc25 (some 199) (.int .i64 rm) (fun Z9=>At w (XWA pb pd p qb qd q most ((n - 2:Nat):Int) T2 D2 J2 gv a7 gc c7 g c2 wr.heap.size ak0 aao acap am at_ ai as_ aes) Z9) 30 #[.pointer (some ⟨p,0,none⟩)] (by kernel_rfl) rfl rfl (by rfl) (jy_Room (.tmp 198) rfl rfl) (HRp.out _ hV3) (fun _ h=>h) ?_
            intro V4 hV4
            simp only [Act.put,List.setIfInBounds_toArray,List.set_cons_zero,List.set_cons_succ]
            refine held_call 27 yjc27 (some 201) (.int .i64 rm) (fun Z9=>At w (XWA pb pd p qb qd q most ((n - 2:Nat):Int) T2 D2 J2 gv a7 gc c7 g c2 wr.heap.size ak0 aao acap am at_ ai as_ aes) Z9) 31 #[.pointer (some ⟨q,0,none⟩)] (by kernel_rfl) rfl rfl (by rfl) (jy_RoomQ (.tmp 200) rfl rfl) (HRq.out _ hV4) (fun _ h=>h) ?_
            intro V5 hV5
            simp only [Act.put,List.setIfInBounds_toArray,List.set_cons_zero,List.set_cons_succ]
            refine run_go [(28,yjc28,(some 202)),(29,yjc29,(some 203))] (by kernel_rfl) ?_
            iterate 2 (refine run_take ?_ rfl rfl (fun _ _ _ h=>h) (Or.inl ⟨by rfl, ?_⟩) hV5 ?_; rotate_left; (· (intro w0 hy0; obtain ⟨y0,y1,y2⟩:=HCL.out _ hy0; clear hy0; (go_simp <;> with_reducible rfl))); simp only [Act.put,List.setIfInBounds_toArray,List.set_cons_zero,List.set_cons_succ])
            refine run_end ?_
            refine wpAnyH_done (by kernel_rfl) ?_ _
            have hX:=hV5
            clear HCL HKp HSm HBo HRp HRq
            go_wp2_with (go_at_call 32; (with_reducible refine (HSp.out _ hX).mono ?_); rintro e w8 ⟨rfl,hS8⟩)
            go_round
            case rel=>exact ⟨i+1,p,q,T2,D2,J2,by omega,by omega,by go_num,rfl,rfl,HI2.out,hS8⟩
            case measure=>simp [intOf]; omega
      · have HSm:=Lib.hid (fun W (h:At w (YY pb pd p qb qd q most ((n - 2:Nat):Int) T D J T D J emp) W)=>ysame (h.imp ((Ass.imp.swap _ _ _).under _)))
        have HAw:=Lib.hid (fun W (hb:Below w.heap.size w W)=>awake11 W (HG.out.below hb HG.out.pos))
        have hcase:(i<cs.length ∧ ¬ (i:Int)<50) ∨ ¬ i<cs.length:=by omega
        clear hgo hI
        rcases hcase with ⟨hlt,hge⟩ | hlt
        case' inl=>have hIl:(i:Int)<(cs.length:Int):=by omega
        case' inr=>have hIl : ¬ (i:Int)<(cs.length:Int):=by omega
        all_goals
          go_wp2_with (first
            | (go_at_call 33; (with_reducible refine (HSm.out _ hS).mono ?_); rintro e w4 ⟨rfl,hb4⟩; have hb5:=bon hS.bel hb4)
            | (go_at_call 12; (with_reducible refine (HAw.out _ hb5).mono ?_); rintro e w5 ⟨rfl,hb6⟩))
          go_ret
          exact ⟨rfl,bon hb5 hb6⟩
  · have HOp:=Lib.hid (fun pb pd qb qd W (h:At w ((BD pb pd most [] (Dk.new n)).star ((RB qb qd most [] (Dk.new n)).star emp)) W)=>opened_no emp_good hg h hok0 (by simp) (by simp [Dk.new]) hE)
    generalize joT most [] (Dk.new n)=T0 at *
    clear hg hok0 hkn hE
    go_enter Tryz.func3,Tryz.ntmps3
    go_wp2_with (first
      | (go_at_call 10; (with_reducible refine (twin_none11 most _ m1 m2).mono ?_); rintro e w1 ⟨pb,qb,rfl,hb⟩)
      | (go_at_call 11; (with_reducible refine (pair_ok11 n _ h1 h2).mono ?_); rintro e w2 ⟨pd,qd,rfl,hp⟩; have hS:=(lawstart hb hp).imp (((Ass.imp.swap _ _ _).trans (emp_add _)).under _); clear hb hp)
      | (go_at_call 13; (with_reducible refine (HOp.out _ _ _ _ _ hS).mono ?_); rintro e w3 ⟨rfl,hS3⟩))
    clear hS HOp
    have HSm:=Lib.hid (fun W (h:At w ((BD pb pd most T0 (Dk.new n)).star ((RB qb qd most T0 (Dk.new n)).star emp)) W)=>ysame h)
    have HAw:=Lib.hid (fun W (hb:Below w.heap.size w W)=>awake11 W (HG.out.below hb HG.out.pos))
    go_loopw [11,12,14] (fun x11 x12 x14 wr=>x14 = .int .i64 0/\x11 = .pointer none/\x12 = .pointer none/\At w ((BD pb pd most T0 (Dk.new n)).star ((RB qb qd most T0 (Dk.new n)).star emp)) wr) (fun _ _ _ _=>0)
    case atStart=>exact ⟨rfl,rfl,rfl,hS3⟩
    case round =>
      clear hS3
      obtain ⟨rfl,rfl,rfl,hS⟩:=hrel
      by_cases hlt:0<cs.length
      case' pos=>have hIl:(0:Int)<(cs.length:Int):=by omega
      case' neg=>have hIl : ¬ (0:Int)<(cs.length:Int):=by omega
      all_goals
          go_wp2_with (first
            | (go_at_call 33; (with_reducible refine (HSm.out _ hS).mono ?_); rintro e w4 ⟨rfl,hb4⟩; have hb5:=bon hS.bel hb4)
            | (go_at_call 12; (with_reducible refine (HAw.out _ hb5).mono ?_); rintro e w5 ⟨rfl,hb6⟩))
          go_ret
          exact ⟨rfl,bon hb5 hb6⟩
set_option maxRecDepth 100000 in
theorem journals_bad (n most : Int) (ao : Option Addr) (len cap : Nat) (w : World) (hg : Gd w) (h : (most < 1 ∨ 65536 < most) ∨ (n < 1 ∨ 256 < n)) :
    Calls Tryz.prog 3 #[.int .i64 n, .int .i64 most, .slice ao len cap] w fun e w'=>e = .returned (.bool true)/\Below w.heap.size w w':=by
  have HG:=Lib.hid hg
  have HAw:=Lib.hid (fun W (hb:Below w.heap.size w W)=>awake11 W (HG.out.below hb HG.out.pos))
  by_cases hm:most<1\/65536<most
  · have HT:=Lib.hid (fun W=>twin_bad11 most none 0 0 W hm)
    have HP:=Lib.hid (fun W=>(show Calls Tryz.prog 11 #[.int .i64 n] W (fun e w'=>(∃ a b,e = .returned (.tuple #[.pointer a, .pointer b]))/\Below W.heap.size W w') from by
      by_cases hn:n<1\/256<n
      · exact (pair_bad11 n W hn).mono fun e w' ⟨x1,x2⟩=>⟨⟨_,_,x1⟩,x2⟩
      · obtain ⟨k,rfl⟩:=Int.eq_ofNat_of_zero_le (show 0<=n by omega)
        exact (pair_ok11 k W (by omega) (by omega)).mono fun e w' ⟨pd,qd,x1,x2⟩=>⟨⟨_,_,x1⟩,x2.nil⟩))
    clear h hm hg
    go_enter Tryz.func3,Tryz.ntmps3
    go_wp2_with (first
      | (go_at_call 10; (with_reducible refine (HT.out _).mono ?_); rintro e w1 ⟨rfl,rfl⟩)
      | (go_at_call 11; (with_reducible refine (HP.out _).mono ?_); rintro e w2 ⟨⟨pa,qa,rfl⟩,hb2⟩)
      | (go_at_call 12; (with_reducible refine (HAw.out _ hb2).mono ?_); rintro e w5 ⟨rfl,hb6⟩))
    go_ret
    exact ⟨rfl,bon hb2 hb6⟩
  · have HP:=Lib.hid (fun W=>pair_bad11 n W (h.resolve_left hm))
    have m1:1<=most:=by omega
    have m2:most<=65536:=by omega
    clear h hm hg
    go_enter Tryz.func3,Tryz.ntmps3
    go_wp2_with (first
      | (go_at_call 10; (with_reducible refine (twin_none11 most _ m1 m2).mono ?_); rintro e w1 ⟨pb,qb,rfl,hb⟩)
      | (go_at_call 11; (with_reducible refine (HP.out _).mono ?_); rintro e w2 ⟨rfl,hb1⟩; have hb2:=bon hb.nil hb1)
      | (go_at_call 12; (with_reducible refine (HAw.out _ hb2).mono ?_); rintro e w5 ⟨rfl,hb6⟩))
    go_ret
    exact ⟨rfl,bon hb2 hb6⟩
end Go.Proofs.YtbfpfmidjdonjaaGreatDoor
