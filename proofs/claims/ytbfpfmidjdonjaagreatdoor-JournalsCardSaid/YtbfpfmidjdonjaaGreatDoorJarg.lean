/- The acts of Journals that came in, each with a row of events of its own. No condition. -/
import Derived.Test.YtbfpfmidjdonjaaGreatDoorJournals
import Derived.Test.YtbfpfmidjdonjaaGreatDoorBfl
import Derived.Test.YtbfpfmidjdonjaaGreatDoorFrame0
namespace Go.Proofs.YtbfpfmidjdonjaaGreatDoor
open Go Go.Deep Go.ChangeShapes Go.WideShapes Go.ChangeAt Go.RowKit
section
variable {H:Type} {enc:TypeId × Value->H} {P:Program} {w:World} {base:Nat} {held:Bool}
theorem slice_cell {t e:TypeId} {c:Value} {n:Nat} {y:DataW H × List MemPlace} (hu:P.underlying t=some (.slice e)) (h:DataW.trod enc P w base (fun _=>true) held n t [c]=some y) : ∃ a0 len cap,c = .slice a0 len cap/\(a0=none->len=0/\cap=0):=by
  rcases open_slice hu h with ⟨hcs,_⟩ | ⟨a,len',cap',m,n,D,Pl,hcs,_⟩
  · simp at hcs
    exact ⟨none,0,0,hcs,fun _=>⟨rfl,rfl⟩⟩
  · simp at hcs
    exact ⟨some a,len',cap',hcs,fun c=>by cases c⟩
end
theorem esat_of {w:World} {b off:Nat} {es:List Ev} (h : ∀ j,j<es.length → ∀ k,k<8->w.cell? ⟨b,off+(j * 8+k),none⟩=(es.getD j Ev.zero).cs[k]?):EsAt w b off es:=fun i u hu=>by
  have hi:i<es.length * 8:=by
    rw [<-ecells_len]
    rcases Nat.lt_or_ge i (ecells es).length with c | c
    · exact c
    · rw [List.getElem?_eq_none c] at hu; cases hu
  have e:i=i / 8 * 8+i % 8:=by omega
  have h1:=h (i / 8) (by omega) (i % 8) (by omega)
  have h2:=ecells_at es (j:=i / 8) (by omega) (i:=i % 8) (by omega)
  rw [<-e] at h1 h2
  rw [h1, <- h2,hu]
noncomputable def evxFields:Array Field:=match Tryz.prog.underlying 61 with
  | some (.struct fs)=>fs
  | _ => #[]
theorem evxU:Tryz.prog.underlying 61=some (.struct evxFields):=by kernel_rfl
theorem evxOne:oneCellFields Tryz.prog evxFields=true:=by kernel_rfl
theorem evxN:evxFields.size=8:=by kernel_rfl
theorem evxC:Tryz.prog.cellsOf 61=evxFields.size:=by kernel_rfl
theorem evx_bytes:Tryz.prog.bytesOf 61=64:=by kernel_rfl
noncomputable def act11Fields:Array Field:=match Tryz.prog.underlying 38 with
  | some (.struct fs)=>fs
  | _ => #[]
theorem act11U:Tryz.prog.underlying 38=some (.struct act11Fields):=by kernel_rfl
theorem act11One:oneCellFields Tryz.prog act11Fields=true:=by kernel_rfl
theorem act11N:act11Fields.size=6:=by kernel_rfl
theorem act11C:Tryz.prog.cellsOf 38=act11Fields.size:=by kernel_rfl
theorem act11_bytes:Tryz.prog.bytesOf 38=72:=by kernel_rfl
theorem act11R_read:Tryz.prog.readableRec 22=true:=by kernel_rfl
theorem act11R_row:22<Tryz.prog.types.size:=of_decide_eq_true (by kernel_rfl)
theorem act11_f1:act11Fields[1]?.map (fun f=>f.type)=some 36:=by kernel_rfl
theorem evs_arg {H:Type} {enc:TypeId × Value->H} {W:World} {cs:Array Value} {D:DataW H} {q:List MemPlace} (ht:DataW.Trod enc Tryz.prog W 0 (fun _=>true) true 38 (.agg cs) D q) (hw : ∀ n ∈ D.weights Tryz.prog 38,n<=reachBytes) :
    ∃ (ao:Option Addr) (n cap:Nat) (es:List Ev),cs[1]? = some (.slice ao n cap)/\EsIn [] W ao n es/\(ao=none->cap=0)/\n<=2199023255488:=by
  cases hf:act11Fields[1]? with
  | none=>have:=act11_f1; rw [hf] at this; cases this
  | some f =>
  have hft:f.type=36:=by have:=act11_f1; rw [hf] at this; exact Option.some.inj this
  obtain ⟨c,y,n,parts,hc,hy,hD,hp⟩:=flat_cell2 act11U act11One act11C ht hf
  rw [hft] at hy
  obtain ⟨ao,len,cap,rfl,hnil⟩:=slice_cell Tryz.underlying36 hy
  have hT:DataW.Trod enc Tryz.prog W 0 (fun _=>true) true 36 (.slice ao len cap) y.1 y.2:=⟨n,by simpa [Value.cells] using hy⟩
  rcases rows_open Tryz.underlying36 evxC hT with rfl | ⟨a,elems,sp,rfl,hd,hl,hcell⟩
  · exact ⟨ao,0,cap,[],hc,⟨rfl, .inl rfl,by omega⟩,fun h=>(hnil h).2,by omega⟩
  · rw [evxN] at hcell
    have hm:(elems.length+sp.length) * Tryz.prog.bytesOf 61 ∈ D.weights Tryz.prog 38:=by
      rw [hD]
      have hft2:(act11Fields.toList.map (·.type))[1]? = some 36:=by simp [hf,hft]
      rw [hd] at hp
      have:=DataW.weights_mem_each (P:=Tryz.prog) hft2 hp ((elems.length+sp.length) * Tryz.prog.bytesOf 61) (by unfold DataW.weights; rw [Tryz.underlying36]; exact List.mem_cons_self)
      unfold DataW.weights
      rw [act11U]
      exact this
    have hr:=hw _ hm
    rw [evx_bytes] at hr
    have hr2:(elems.length+sp.length) * 64<=140737488351232:=hr
    obtain ⟨es,h1,h2⟩:=row_each (p:=fun i (x:Ev) => ∀ k,k<8->W.cell? (a.add (i * 8+k))=x.cs[k]?) Ev.zero (n:=len) fun i hi=>by
      obtain ⟨cs,D,q,hD,hn,hc,ht⟩:=hcell i hi
      obtain ⟨z0,e0,_⟩:=flat_int evxU evxOne evxC ht (i:=0) (k := .i64) (by kernel_rfl)
      obtain ⟨z1,e1,_⟩:=flat_int evxU evxOne evxC ht (i:=1) (k := .i64) (by kernel_rfl)
      obtain ⟨z2,e2,_⟩:=flat_int evxU evxOne evxC ht (i:=2) (k := .i64) (by kernel_rfl)
      obtain ⟨z3,e3,_⟩:=flat_int evxU evxOne evxC ht (i:=3) (k := .i64) (by kernel_rfl)
      obtain ⟨z4,e4,_⟩:=flat_int evxU evxOne evxC ht (i:=4) (k := .i64) (by kernel_rfl)
      obtain ⟨z5,e5,_⟩:=flat_int evxU evxOne evxC ht (i:=5) (k := .i64) (by kernel_rfl)
      obtain ⟨z6,e6,_⟩:=flat_int evxU evxOne evxC ht (i:=6) (k := .i64) (by kernel_rfl)
      obtain ⟨z7,e7,_⟩:=flat_int evxU evxOne evxC ht (i:=7) (k := .i64) (by kernel_rfl)
      refine ⟨⟨z0,z1,z2,z3,z4,z5,z6,z7⟩,fun k hk=>(hc k hk).trans ?_⟩
      rcases (show k=0\/k=1\/k=2\/k=3\/k=4\/k=5\/k=6\/k=7 by omega) with rfl | rfl | rfl | rfl | rfl | rfl | rfl | rfl
      · exact e0
      · exact e1
      · exact e2
      · exact e3
      · exact e4
      · exact e5
      · exact e6
      · exact e7
    subst h1
    refine ⟨some a,es.length,cap,es,hc, ?_,(fun h=>by cases h),by omega⟩
    by_cases h0:es.length=0
    · exact ⟨rfl, .inl h0,by omega⟩
    · obtain ⟨b,off,spot⟩:=a
      have h00:=h2 0 (by omega) 0 (by decide)
      have hs0:W.cell? ((⟨b,off,spot⟩:Addr).add (0 * 8+0))=some (.int .i64 (es.getD 0 Ev.zero).kind):=h00
      have hspot:spot=Option.none:=by simpa [Addr.add] using World.cell?_spot hs0
      subst hspot
      simp only [Addr.add_lit] at h2 hs0
      exact ⟨rfl, .inr ⟨b,off,rfl,esat_of fun j hj k hk=>h2 j hj k hk,by simp,World.block_lt_of_cell? W _ hs0⟩,by omega⟩
theorem act11_arg {H : Type} {enc : TypeId × Value → H} {W : World} {a0 : Option Addr} {len cap : Nat} {d : DataW H} {ps : List MemPlace} (h : DataW.Trod enc Tryz.prog W 0 (fun _ => true) true 22 (.slice a0 len cap) d ps)
    (hsz : ∀ elems sp,d = .slice elems sp->(elems.length+sp.length) * Tryz.prog.bytesOf 38<=reachBytes ∧ ∀ D ∈ elems, ∀ n ∈ D.weights Tryz.prog 38,n<=reachBytes) : ∃ cs:List Act11,cs.length=len/\AArg11 W a0 cs:=by
  rcases rows_open Tryz.underlying22 act11C h with rfl | ⟨a,elems,sp,rfl,hd,hl,hc⟩
  · exact ⟨[],rfl,⟨(fun j hj=>by cases hj),(fun j hj=>by cases hj),(fun j hj=>by cases hj),by simp⟩⟩
  · obtain ⟨hs1,hs2⟩:=hsz _ _ hd
    rw [act11_bytes] at hs1
    rw [act11N] at hc
    obtain ⟨cs,h1,h2⟩:=row_each (p:=fun i (x:Act11)=>W.cell? (a.add (i * 6+0))=some (.int .i64 x.k)/\W.cell? (a.add (i * 6+1))=some (.slice x.ao x.n x.cap)/\W.cell? (a.add (i * 6+2))=some (.int .i64 x.m) ∧
        W.cell? (a.add (i * 6+3))=some (.int .i64 x.t)/\W.cell? (a.add (i * 6+4))=some (.int .i64 x.i)/\W.cell? (a.add (i * 6+5))=some (.string x.s)/\(EsIn [] W x.ao x.n x.es/\(x.ao=none->x.cap=0)/\x.n<=2199023255488)/\x.m<=9223372036854775807/\x.t<=9223372036854775807) Act11.none (n:=len) fun i hi=>by
      obtain ⟨cs,D,q,hD,hn,hcell,ht⟩:=hc i hi
      obtain ⟨z0,e0,_⟩:=flat_int act11U act11One act11C ht (i:=0) (k := .i64) (by kernel_rfl)
      obtain ⟨ao,n,cp,es,e1,k1,k2,k3⟩:=evs_arg ht (hs2 D hD)
      obtain ⟨z2,e2,b2⟩:=flat_int act11U act11One act11C ht (i:=2) (k := .i64) (by kernel_rfl)
      obtain ⟨z3,e3,b3⟩:=flat_int act11U act11One act11C ht (i:=3) (k := .i64) (by kernel_rfl)
      obtain ⟨z4,e4,_⟩:=flat_int act11U act11One act11C ht (i:=4) (k := .i64) (by kernel_rfl)
      obtain ⟨z5,e5,_⟩:=flat_text act11U act11One act11C ht (hs2 D hD) (i:=5) (by kernel_rfl)
      exact ⟨⟨z0,ao,n,cp,es,z2,z3,z4,z5⟩,(hcell 0 (by decide)).trans e0,(hcell 1 (by decide)).trans e1,(hcell 2 (by decide)).trans e2,(hcell 3 (by decide)).trans e3,(hcell 4 (by decide)).trans e4,(hcell 5 (by decide)).trans e5,⟨k1,k2,k3⟩,(bounds_i64 b2).2,(bounds_i64 b3).2⟩
    subst h1
    have hr:=reachBytes_lt
    refine ⟨cs,rfl,⟨fun j hj => ?_,fun j hj=>(h2 j hj).2.2.2.2.2.2.1,fun j hj=>(h2 j hj).2.2.2.2.2.2.2,by omega⟩⟩
    obtain ⟨c0,c1,c2,c3,c4,c5,_⟩:=h2 j hj
    obtain ⟨b,off,spot⟩:=a
    have hspot:spot=Option.none:=by simpa [Addr.add] using World.cell?_spot (h2 0 (by omega)).1
    subst hspot
    simp only [Addr.add_lit, <- Nat.add_assoc,Nat.add_zero] at c0 c1 c2 c3 c4 c5
    exact ⟨b,off,rfl,c0,c1,c2,c3,c4,c5⟩
theorem journals_walk (n most:Int) (ao:Option Addr) (cap:Nat) (cs:List Act11) (w:World) (hg:Gd w) (hA:AArg11 w ao cs) :
    Calls Tryz.prog 3 #[.int .i64 n, .int .i64 most, .slice ao cs.length cap] w fun e w'=>e = .returned (.bool true)/\Below w.heap.size w w':=by
  by_cases h:(most<1\/65536<most)\/(n<1\/256<n)
  · exact journals_bad n most ao cs.length cap w hg h
  · obtain ⟨k,rfl⟩:=Int.eq_ofNat_of_zero_le (show 0<=n by omega)
    exact journals_ok k most ao cap cs w hg hA (by omega) (by omega) (by omega) (by omega)
end Go.Proofs.YtbfpfmidjdonjaaGreatDoor
