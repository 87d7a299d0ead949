/- Journals is proved: a journal under any calls, crashes, and sectors that somebody writes answers as the document says. Condition: errors.errorType reads as the text of the program lays it (the card ties it). -/
import Derived.Test.YtbfpfmidjdonjaaGreatDoorJarg
import Derived.Test.YtbfpfmidjdonjaaGreatDoorFframe
import Derived.Test.YtbfpfmidjdonjaaGreatDoorFrame0
namespace Go.Proofs.YtbfpfmidjdonjaaGreatDoor
open Go Go.ChangeShapes Go.WideShapes Go.RowKit Go.WideMaps Go.WideElems
open Go.ChangeMaps (open_string shut_string)
set_option maxRecDepth 100000 in
theorem journals_lifted (os:Os) (started:os.Started) (H:Type) (enc:TypeId × Value->H) :
    ReturnsInHanded {} Tryz.checked os 3 .any (fun w args=>(Rows.journalsSpec.pre enc Tryz.prog Tryz.f3 [] false w args/\laidMetH Tryz.prog theLaid w)/\sizedMet enc Tryz.prog Tryz.f3 (OpenSpec.ofChange Rows.journalsSpec) false w args)
      (Rows.journalsSpec.post enc Tryz.prog Tryz.f3 false true false false):=by
  refine returnsInHanded_of_change_and (C:=Tryz.checked) (X:=fun w _=>laidMetH Tryz.prog theLaid w) (fun _ _ _ hh h=>h.of_heap hh) ownK started (by kernel_rfl) Tryz.func3
    (ChangeSpec.witness_at (enc:=enc) (C:=Tryz.checked) (os:=os) (X:=fun w _=>laidMetH Tryz.prog theLaid w) false (laidWorld os) #[.int .i64 0, .int .i64 0, .slice none 0 0] 8 rfl (by kernel_rfl) (by kernel_rfl) (by kernel_rfl) (by kernel_rfl) (by kernel_rfl) (laidWorld_met os _)) ?_
  intro W base args ds gs before hval0 hW _ hsz0 hL _
  have hval : ∀ (j:Nat) t v,Tryz.f3.params[j]? = some t->args[j]? = some v->Value.okWide Tryz.prog W .any base t v:=hval0
  have hsz:(DataW.weightsEach Tryz.prog (Tryz.f3.params.toList++DataSpec.varTypes Tryz.prog Rows.journalsSpec.plain) (ds++gs)).all (· ≤ reachBytes)=true:=hsz0
  have hW':=hW
  obtain ⟨p,q,hA0,hV,rfl,hfz,hnd⟩:=hW
  have hA:DataW.TrodAll enc Tryz.prog W 0 (fun _=>true) true Tryz.f3.params.toList args.toList ds p:=hA0
  rw [Tryz.params3] at hA hval hsz
  obtain ⟨v0,v1,v2,d0,d1,d2,p0,p1,p2,rfl,rfl,rfl,h0,h1,h2⟩:=trodAll_three hA
  obtain ⟨rfl,rfl⟩:=trodVars_none hV
  obtain ⟨sectors,rfl,rfl,rfl,wsectors⟩:=open_int Tryz.underlying3 (hval 0 3 v0 rfl rfl) h0
  obtain ⟨most,rfl,rfl,rfl,wmost⟩:=open_int Tryz.underlying3 (hval 1 3 v1 rfl rfl) h1
  obtain ⟨actsa,actslen,actscap,rfl⟩:=okWide_slice Tryz.underlying22 (hval 2 22 v2 rfl rfl)
  have hg:=gd_of_laid hL
  obtain ⟨acts,actsl,ra_acts⟩:=act11_arg h2 (fun elems spare hd=>rows_sized hsz (j:=2) (t:=22) (e:=38) rfl (by rw [<-hd]; rfl) Tryz.underlying22)
  subst actsl
  obtain ⟨sectors0,sectors1⟩:=bounds_i64 wsectors
  obtain ⟨most0,most1⟩:=bounds_i64 wmost
  have e1:Rows.journalsSpec.fn H ([.lit (.int .i64 sectors), .lit (.int .i64 most),d2]++[]) = { results:=[.lit (.bool true)],args:=[.lit (.int .i64 sectors), .lit (.int .i64 most),d2] } := by simp [Rows.journalsSpec]
  refine (journals_walk sectors most actsa actscap acts W hg ra_acts).mono fun e W' ⟨he,hw⟩ => ?_
  subst he
  refine ⟨_,rfl,_,_,_,[],([]++([]++p2)),[],hW', ?_, ?_, ?_,hw.frame _,fun h=>by cases h⟩
  · rw [e1]; exact trodAll_mk1 (shut_bool Tryz.underlying4 true)
  · rw [e1]; exact trodAll_mk3 (shut_int Tryz.underlying3 wsectors) (shut_int Tryz.underlying3 wmost) (Below.trod laidOut0 act11R_read act11R_row h2 hw (fun x hx=>by simpa using hW'.lt x (by simp [hx])))
  · rw [e1]; rfl
theorem journals_row:Rows.JournalsSaid :=
  OpenClaim.holds_of_wide 3 Tryz.f3 rfl rfl rfl rfl rfl rfl rfl ⟨rfl,rfl,rfl,rfl,rfl⟩ rfl rfl rfl rfl rfl (by kernel_rfl) Tryz.func3 (by kernel_rfl)
    (of_decide_eq_true (by kernel_rfl)) (by unfold Func.isWrapper; first | (rw [if_pos (by decide +kernel)]; kernel_rfl) | (rw [if_neg (by decide +kernel)]; exact ⟨rfl,rfl⟩))
    (fun os started H enc _=>journals_lifted os started H enc)
theorem journals_holds : Rows.JournalsCardSaid :=
  Claim7.holds_tied_plain_at .later [] [.handle] true _ true
    journals_row (fun _ h=>by cases h) (by kernel_rfl) (fun _ h=>by cases h) journals_row_tie rfl ⟨rfl,rfl⟩ (by kernel_rfl) rfl
    (fun f fn hf hfn=>by
      obtain rfl:f=3:=Option.some.inj ((show Tryz.prog.funcNamed "bastion/bastionlaw11.Journals" = some 3 by kernel_rfl).symm.trans hf) |>.symm
      obtain rfl:fn=Tryz.f3:=(Option.some.inj (Tryz.func3.symm.trans hfn)).symm
      exact ⟨by kernel_rfl,fun j t ht=>by
        rw [Tryz.params3] at ht
        have hm:t ∈ [3,3,22]:=by simpa using Array.mem_of_getElem? ht
        have hall:([3,3,22].all fun u => !Tryz.prog.wantsStandIn u)=true:=by kernel_rfl
        exact (show Tryz.prog.wantsStandIn t=false by simpa using List.all_eq_true.1 hall t hm)⟩)
    (by kernel_rfl)
end Go.Proofs.YtbfpfmidjdonjaaGreatDoor
