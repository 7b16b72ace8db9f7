import Derived.Test.YtgfinhehgfbdgaaGreatDoorKa37
import Derived.Test.YtgfinhehgfbdgaaGreatDoorKa33
import Derived.Test.YtgfinhehgfbdgaaGreatDoorKa30
import Derived.Test.YtgfinhehgfbdgaaGreatDoorKa32
import Derived.RegionTactic
import Derived.WalkSpells
import Derived.Deep.RegionHeld3
import Derived.Test.YtgfinhehgfbdgaaGreatDoorKa36
import Derived.Deep.RegionWith
namespace Go.Proofs.YtgfinhehgfbdgaaGreatDoor
open Go.RowKit
def Rd (w:World) (R:Nat) (s:ByteArray) (a:Nat):Prop:=w.heap[R]? = some (.cells #[.string s,.int .i64 (a:Int)] 198 (0,0))
theorem Rd.cells {w:World} {R:Nat} {s:ByteArray} {a:Nat} (h:Rd w R s a):w.cell? ⟨R,0,none⟩=some (.string s)∧w.cell? ⟨R,1,none⟩=some (.int .i64 (a:Int))∧w.frozen? ⟨R,1,none⟩=false∧R < w.heap.size:=by
 refine ⟨cell_of_row _ _ 0 _ _ (0,0) h,cell_of_row _ _ 1 _ _ (0,0) h,Lib.frozen_of_heap h 1,?_⟩
 exact (Array.getElem?_eq_some_iff.1 h).1
theorem Rd.below {w w':World} {R:Nat} {s:ByteArray} {a:Nat} (h:Rd w R s a) (hb:Below w.heap.size w w'):Rd w' R s a:=(hb.block R h.cells.2.2.2).trans h
theorem Rd.moved {w:World} {R:Nat} {s:ByteArray} {a b:Nat} (h:Rd w R s a):Rd (w.setCell ⟨R,1,none⟩ (.int .i64 (b:Int))) R s b:=by
 unfold Rd at h ⊢
 simp [World.setCell,Array.getElem?_modify,h]
theorem grownR {w w1:World} {R:Nat} (h:Below w.heap.size w w1) (v:Value):w.grownBy (w1.setCell ⟨R,1,none⟩ v) (some R) :=
 ⟨h.os,h.tape,h.output,by simpa using h.size,fun k hk hne=>by
   have hk2:R≠k:=fun e=>hne (by rw [e])
   simp only [World.setCell,Array.getElem?_modify,if_neg hk2]
   exact h.block k hk⟩
theorem grownB {w w1:World} {R:Nat} (h:Below w.heap.size w w1):w.grownBy w1 (some R):=⟨h.os,h.tape,h.output,h.size,fun k hk _=>h.block k hk⟩
def Thrown (r:Nat×Int) (e:Ending) (w':World):Prop:=∃ t v,e=.panicked [{ v:=.iface t v,recovered:=false }]∧r.1≠0∧anyErr w' (.iface t v) r
set_option maxRecDepth 100000 in
theorem check_nil (R:Nat) (w:World):Calls Tryz.prog 153 #[.pointer (some ⟨R,0,none⟩),.nilIface] w fun e w'=>e=.returned (.tuple #[])∧w=w':=by
 go_enter Tryz.func153,Tryz.ntmps153
 go_wp2
 go_end0
 exact ⟨rfl,rfl⟩
set_option maxRecDepth 100000 in
set_option maxHeartbeats 2000000 in
theorem check_err (R:Nat) (s:ByteArray) (a:Nat) (v:Value) (x:Nat) (w:World) (h:Rd w R s a) (hg:errT w) (hv:isErr w v (x:Int)) (hx:x≠0) :
   Calls Tryz.prog 153 #[.pointer (some ⟨R,0,none⟩),v] w fun e w'=>Thrown (x,(a:Int)) e w'∧Below w.heap.size w w':=by
 have H:=Lib.hid h
 have HG:=Lib.hid hg
 have HV:=Lib.hid hv
 obtain ⟨t,u,rfl⟩:=hv.iface
 obtain ⟨_,c1,_,_⟩:=h.cells
 have HB0:Hid (Below w.heap.size w w.drew):=Lib.hid (Below.refl _ _).drew
 clear h hg hv
 go_enter Tryz.func153,Tryz.ntmps153
 go_wp2
 refine wp_region_held_drew (S:=fun w'=>w'.cell? ⟨R,1,none⟩=some (.int .i64 (a:Int))) (by kernel_rfl) c1 (fun hHeld=>?_)
 refine wpAnyH_take (i:=0) (v:=?v0) rfl (by kernel_rfl) (by kernel_rfl) (by kernel_rfl) (fun _ _ _ h=>h) (Or.inl ⟨by rfl,?h0⟩) (by assumption) ?r0
 case h0=>(intro W hSw;(try dsimp only at hSw);go_simp;all_goals (with_reducible rfl))
 try simp only [Act.put,List.getElem_toArray,List.getElem_cons_zero,List.setIfInBounds_toArray,List.set_cons_zero,List.set_cons_succ]
 refine wpAnyH_take (i:=2) (v:=?v2) rfl (by kernel_rfl) (by kernel_rfl) (by kernel_rfl) (fun _ _ _ h=>h) (Or.inl ⟨by rfl,?h2⟩) (by assumption) ?r2
 case h2=>(intro W hSw;(try dsimp only at hSw);go_simp;all_goals (with_reducible rfl))
 try simp only [Act.put,List.getElem_toArray,List.getElem_cons_zero,List.getElem_cons_succ,List.setIfInBounds_toArray,List.set_cons_zero,List.set_cons_succ]
 refine wpAnyH_take (i:=3) (v:=?v3) rfl (by kernel_rfl) (by kernel_rfl) (by kernel_rfl) (fun _ _ _ h=>h) (Or.inl ⟨by rfl,?h3⟩) (by assumption) ?r3
 case h3=>(intro W hSw;(try dsimp only at hSw);go_simp;all_goals (with_reducible rfl))
 try simp only [Act.put,List.getElem_toArray,List.getElem_cons_zero,List.getElem_cons_succ,List.setIfInBounds_toArray,List.set_cons_zero,List.set_cons_succ]
 refine wpAnyH_take (i:=4) (v:=?v4) rfl (by kernel_rfl) (by kernel_rfl) (by kernel_rfl) (fun _ _ _ h=>h) (Or.inl ⟨by rfl,?h4⟩) (by assumption) ?r4
 case h4=>(intro W hSw;(try dsimp only at hSw);go_simp;all_goals (with_reducible rfl))
 try simp only [Act.put,List.getElem_toArray,List.getElem_cons_zero,List.getElem_cons_succ,List.setIfInBounds_toArray,List.set_cons_zero,List.set_cons_succ]
 refine wpAnyH_take (i:=5) (v:=?v5) rfl (by kernel_rfl) (by kernel_rfl) (by kernel_rfl) (fun _ _ _ h=>h) (Or.inl ⟨by rfl,?h5⟩) (by assumption) ?r5
 case h5=>(intro W hSw;(try dsimp only at hSw);go_simp;all_goals (with_reducible rfl))
 try simp only [Act.put,List.getElem_toArray,List.getElem_cons_zero,List.getElem_cons_succ,List.setIfInBounds_toArray,List.set_cons_zero,List.set_cons_succ]
 refine wpAnyH_ready (rs:=[1]) (by kernel_rfl) (by simp) ?_
 refine AllReadyH.cons rfl (fun K hK=>?_) AllReadyH.nil
 go_simp
 refine (tell_err _ (x:Int) _ (HG.out.below HB0.out) (HV.out.below HB0.out)).mono ?_
 rintro r w1 ⟨rfl,hb1⟩
 have HB1:Hid (Below w.heap.size w w1):=Lib.hid (undrew3 hb1)
 have k1:=(H.out.below HB1.out).cells.2.1
 have k2:=((H.out.below HB1.out).below ((Below.refl _ _).alloc (Nat.le_refl _) (.cells #[.int .i64 (x:Int),.int .i64 (a:Int)] 84))).cells.2.1
 clear hb1
 refine hK.out _ _ k1 (fun hHeld1=>?_)
 clear hK hHeld
 try simp only [Act.put,List.getElem_toArray,List.getElem_cons_zero,List.getElem_cons_succ,List.setIfInBounds_toArray,List.set_cons_zero,List.set_cons_succ]
 refine wpAnyH_take (i:=6) (v:=?v6) rfl (by kernel_rfl) (by kernel_rfl) (by kernel_rfl) (fun _ _ _ h=>h) (Or.inl ⟨by rfl,?h6⟩) (by assumption) ?r6
 case h6=>(intro W hSw;(try dsimp only at hSw);go_simp;all_goals (with_reducible rfl))
 try simp only [Act.put,List.getElem_toArray,List.getElem_cons_zero,List.getElem_cons_succ,List.setIfInBounds_toArray,List.set_cons_zero,List.set_cons_succ]
 refine wpAnyH_ready (rs:=[7]) (by kernel_rfl) (by simp) ?_
 refine AllReadyH.cons rfl (fun K hK=>?_) AllReadyH.nil
 go_simp
 refine hK.out _ _ k2 (fun hHeld7=>?_)
 clear hK hHeld1
 try simp only [Act.put,List.getElem_toArray,List.getElem_cons_zero,List.getElem_cons_succ,List.setIfInBounds_toArray,List.set_cons_zero,List.set_cons_succ]
 refine wpAnyH_take (i:=8) (v:=?v8) rfl (by kernel_rfl) (by kernel_rfl) (by kernel_rfl) (fun _ _ _ h=>h) (Or.inl ⟨by rfl,?h8⟩) (by assumption) ?r8
 case h8=>(intro W hSw;(try dsimp only at hSw);go_simp;all_goals (with_reducible rfl))
 try simp only [Act.put,List.getElem_toArray,List.getElem_cons_zero,List.getElem_cons_succ,List.setIfInBounds_toArray,List.set_cons_zero,List.set_cons_succ]
 refine wpAnyH_ready (rs:=[9]) (by kernel_rfl) (by simp) ?_
 refine AllReadyH.cons rfl (fun K hK=>?_) AllReadyH.nil
 go_simp
 refine (bthrow_err _ _ _).mono ?_
 rintro r w2 ⟨rfl,rfl⟩
 refine And.intro rfl ⟨⟨_,_,rfl,hx,.inl (atIs.new w1 x a hx)⟩,HB1.out.alloc HB1.out.size _⟩
end Go.Proofs.YtgfinhehgfbdgaaGreatDoor
namespace Go.Proofs.YtgfinhehgfbdgaaGreatDoor
open Go.RowKit
theorem bodyF_fits {f h:List Ent} {l:List Wr} {s:List UInt8} {pl:Int} (hb:bodyF f h l=(s,0,pl)):s.length≤20000:=by
  by_cases hr:(batF f h l).1=0
  · by_cases hbg:20000 < (bodyL f h l).length
    · rw [bodyF_big hr hbg] at hb;injection hb with _ hb;injection hb with hb _;cases hb
    · rw [bodyF_ok hr hbg] at hb;injection hb with hb _;rw [←hb];omega
  · rw [bodyF_bad hr] at hb;injection hb with _ hb;exact absurd (by rw [hb]) hr
theorem frm_seal (S P T:ByteArray) (hP:packL S.data.toList=P.data.toList) (hT:frmL S.data.toList=T.data.toList):sealB ((⟨#[80,84]⟩:ByteArray) ++ ⟨#[3]⟩ ++ P)=T:=by
  apply bytes_ext
  rw [sealB_data,←hT]
  unfold frmL
  rw [hP]
  simp
set_option maxRecDepth 100000 in
set_option maxHeartbeats 2400000 in
theorem fwrite_as (vf vh vw:Value) (f h:List Ent) (l:List Wr) (T:ByteArray) (e:Nat) (pl:Int) (w:World) (hx:BatIs w vf vh vw f h l) (hg:errT w) (hb:frmF f h l=(T.data.toList,e,pl)) :
    Calls Tryz.prog 12 #[.agg #[vf,vh,vw]] w fun r w'=>∃ err,r=.returned (.tuple #[.string T,err])∧anyErr w' err (e,pl)∧Below w.heap.size w w':=by
  have HX:=Lib.hid hx
  have HG:=Lib.hid hg
  obtain ⟨hf,hh,hv,_⟩:=hx
  obtain ⟨af,cf,rfl,_⟩:=hf.form
  obtain ⟨ah,ch,rfl,_⟩:=hh.form
  obtain ⟨aw,cw,rfl,_⟩:=hv.form
  obtain ⟨S,x,q,hbf⟩:∃ (S:ByteArray) (x:Nat) (q:Int),bodyF f h l=(S.data.toList,x,q):=⟨⟨(bodyF f h l).1.toArray⟩,(bodyF f h l).2.1,(bodyF f h l).2.2,by simp⟩
  have HBF:=Lib.hid hbf
  obtain ⟨d0,d1,d2⟩:=batAt_new w (.slice af f.length cf) (.slice ah h.length ch) (.slice aw l.length cw) 25
  have HW:Hid (Below w.heap.size w (w.alloc (.cells #[.slice af f.length cf,.slice ah h.length ch,.slice aw l.length cw] 25))):=Lib.hid ((Below.refl _ _).alloc (Nat.le_refl _) _)
  generalize f.length=nf at HX HW d0 d1 d2 ⊢
  generalize h.length=nh at HX HW d0 d1 d2 ⊢
  generalize l.length=n at HX HW d0 d1 d2 ⊢
  clear hf hh hv hg
  by_cases hx0:x=0
  · subst hx0
    rw [frmF_ok hbf] at hb
    injection hb with hT hb
    injection hb with h1 h2
    subst h1 h2
    have hsz:S.size≤20000:=by rw [size_data];exact bodyF_fits hbf
    obtain ⟨P,hP⟩:∃ P:ByteArray,packL S.data.toList=P.data.toList:=⟨⟨(packL S.data.toList).toArray⟩,by simp⟩
    have hpz:P.size≤20004:=by
      rw [size_data,←hP,packL_len,←size_data,putL_size hsz]
      split <;> split <;> omega
    obtain ⟨B,hB⟩:∃ B:ByteArray,B=⟨#[3]⟩:=⟨_,rfl⟩
    obtain ⟨A,hA⟩:∃ A:ByteArray,A=⟨#[80,84]⟩:=⟨_,rfl⟩
    have hsl:sealB (A ++ B ++ P)=T:=by rw [hA,hB];exact frm_seal S P T hP hT
    have hAz:A.size=2:=by rw [hA];rfl
    have hBz:B.size=1:=by rw [hB];rfl
    have HSL:=Lib.hid hsl
    have HPK:=Lib.hid (fun w'=>pack_any S P w' hsz hP)
    have HBB:=Lib.hid hB
    have ha1:¬ (9223372036854775807 < A.size + B.size):=by omega
    have ha2:¬ (9223372036854775807 < (A ++ B).size + P.size):=by rw [ByteArray.size_append];omega
    have ha3:¬ (9223372036854775807 < A.size + B.size + P.size):=by omega
    have HSZ:Hid ((A ++ B ++ P).size≤140737488351232):=Lib.hid (by rw [ByteArray.size_append,ByteArray.size_append];omega)
    have hA2:(⟨#[80,84]⟩:ByteArray)=A:=hA.symm
    clear hbf hT hP hB hsl hA
    go_enter Tryz.func12,Tryz.ntmps12
    rw [hA2]
    go_wp2_with fail
    refine (bwrite_any _ _ _ f h l _ (HX.out.below HW.out) (HG.out.below HW.out)).mono ?_
    rintro r w1 ⟨err,rfl,hat,hb1⟩
    rw [HBF.out] at hat ⊢
    obtain rfl:=hat.nil rfl
    rw [bs_of]
    have HB1:Hid (Below w.heap.size w w1):=HW.out.trans (hb1.mono HW.out.size)
    clear hb1 hat d0 d1 d2
    go_wp2
    have hcA:=byte_lit 3 3 B rfl HBB.out (by omega) (w1.alloc (.cells #[.int .u8 3] 5)) w1.heap.size (heap_alloc_new w1 _)
    have hcD:=byte_lit 3 3 B rfl HBB.out (by omega) (w1.alloc (.cells #[.int .u8 3] 5)).drew w1.heap.size (heap_alloc_new w1 _)
    have HBA:Hid (Below w1.heap.size w1 (w1.alloc (.cells #[.int .u8 3] 5))):=Lib.hid ((Below.refl _ _).alloc (Nat.le_refl _) _)
    go_region_with (first
      | (go_at_call 41;((with_reducible refine (HPK.out w1.drew).mono ?_);rintro r w2 ⟨rfl,hb2⟩;have HB2:Hid (Below w1.heap.size w1 w2):=Lib.hid (undrewP hb2);have HB3:Hid (Below w1.heap.size w1 (w2.alloc (.cells #[.int .u8 3] 5))):=Lib.hid (HB2.out.alloc HB2.out.size _);have hcB:=byte_lit 3 3 B rfl HBB.out (by omega) (w2.alloc (.cells #[.int .u8 3] 5)) w2.heap.size (heap_alloc_new w2 _);clear hb2))
      | (go_at_call 41;((with_reducible refine (HPK.out (w1.alloc (.cells #[.int .u8 3] 5)).drew).mono ?_);rintro r w2 ⟨rfl,hb2⟩;have HB3:Hid (Below w1.heap.size w1 w2):=Lib.hid (HBA.out.trans ((undrewP hb2).mono (by simp)));have hcB:=byte_lit 3 3 B rfl HBB.out (by omega) w2 w1.heap.size (((undrewP hb2).block _ (by simp)).trans (heap_alloc_new w1 _));clear hb2))
      | (go_at_call 35;((refine (seal_any _ _ HSZ.out).mono ?_);rintro r w4 ⟨rfl,hb4⟩;have HB4:Hid (Below w1.heap.size w1 w4):=Lib.hid (HB3.out.trans (hb4.mono HB3.out.size));clear hb4)))
    all_goals
      clear hcA hcB hcD
      go_wp2
      go_ret2
      exact ⟨.nilIface,by rw [←HSL.out];rfl,.inl (.inl ⟨rfl,rfl⟩),HB1.out.trans (HB4.out.mono HB1.out.size)⟩
  · rw [frmF_bad hbf hx0] at hb
    injection hb with hT hb
    injection hb with h1 h2
    subst h1 h2
    have hTe:T=⟨#[]⟩:=by rw [←bs_of T,←hT]
    subst hTe
    clear hbf hT
    go_enter Tryz.func12,Tryz.ntmps12
    go_wp2_with fail
    refine (bwrite_any _ _ _ f h l _ (HX.out.below HW.out) (HG.out.below HW.out)).mono ?_
    rintro r w1 ⟨err,rfl,hat,hb1⟩
    rw [HBF.out] at hat ⊢
    have HAT:=Lib.hid hat
    obtain ⟨t,u,rfl⟩:=hat.iface hx0
    have HB1:Hid (Below w.heap.size w w1):=HW.out.trans (hb1.mono HW.out.size)
    clear hb1 hat d0 d1 d2
    go_wp2
    go_ret2
    exact ⟨.iface t u,rfl,HAT.out,HB1.out⟩
end Go.Proofs.YtgfinhehgfbdgaaGreatDoor
