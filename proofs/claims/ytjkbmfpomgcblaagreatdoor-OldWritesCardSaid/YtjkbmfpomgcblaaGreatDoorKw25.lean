import Derived.Test.YtjkbmfpomgcblaaGreatDoorKw24
import Derived.Test.YtjkbmfpomgcblaaGreatDoorKw23
namespace Go.Proofs.YtjkbmfpomgcblaaGreatDoor
open Go.RowKit
theorem rbody_as (vf vh vw:Value) (f h:List Ent) (l:List Wr) (S:ByteArray) (e:Nat) (pl:Int) (w:World) (hx:BatIs w vf vh vw f h l) (hb:bodyF f h l=(S.data.toList,e,pl)) :
   Calls Tryz.prog 68 #[.agg #[vf,vh,vw]] w fun r w'=>r=.returned (.tuple #[.string S,.agg #[.int .i64 (e:Int),.int .i64 pl]])∧Below w.heap.size w w':=by
 by_cases hr:(batF f h l).1=0
 · refine (rbody_good w vf vh vw f h l hx hr).mono ?_
   rintro r w' ⟨rfl,h2⟩
   have h3:pl=-1:=by
     by_cases hbg:20000 < (bodyL f h l).length
     · rw [bodyF_big hr hbg] at hb;injection hb with _ hb;injection hb with _ hb;exact hb.symm
     · rw [bodyF_ok hr hbg] at hb;injection hb with _ hb;injection hb with _ hb;exact hb.symm
   rw [hb,h3]
   exact ⟨by rw [bs_of],h2⟩
 · obtain ⟨e',pl',hbf⟩:∃ e' pl',batF f h l=(e',pl'):=⟨_,_,rfl⟩
   have hn:e'≠0:=by rw [hbf] at hr;exact hr
   refine (rbody_bad w vf vh vw f h l e' pl' hx hbf hn).mono ?_
   rintro r w' ⟨rfl,h2⟩
   rw [bodyF_bad hr,hbf] at hb
   injection hb with h3 h4
   injection h4 with h4 h5
   subst h4 h5
   have:S=⟨#[]⟩:=by rw [←bs_of S,←h3]
   rw [this]
   exact ⟨rfl,h2⟩
end Go.Proofs.YtjkbmfpomgcblaaGreatDoor
namespace Go.Proofs.YtjkbmfpomgcblaaGreatDoor
open Go.RowKit
theorem rowF.away {w:World} {F G:Nat} {a b:Int} (h:rowF w G a b) (hne:G≠F) (u v:Value):rowF ((w.setCell ⟨F,0,none⟩ u).setCell ⟨F,1,none⟩ v) G a b :=
 by unfold rowF;rw [heap_setCell_other _ _ _ _ (fun e=>hne e),heap_setCell_other _ _ _ _ (fun e=>hne e)];exact h
theorem bodyF_minus {f h:List Ent} {l:List Wr} {s:List UInt8} {q:Int} (hb:bodyF f h l=(s,0,q)):q=-1:=by
 by_cases hr:(batF f h l).1=0
 · by_cases hbg:20000 < (bodyL f h l).length
   · rw [bodyF_big hr hbg] at hb;injection hb with _ hb;injection hb with hb _;cases hb
   · rw [bodyF_ok hr hbg] at hb;injection hb with _ hb;injection hb with _ hb;exact hb.symm
 · rw [bodyF_bad hr] at hb;injection hb with _ hb;exact absurd (by rw [hb]) hr
end Go.Proofs.YtjkbmfpomgcblaaGreatDoor
namespace Go.Proofs.YtjkbmfpomgcblaaGreatDoor
open Go.RowKit
theorem oldWs_snoc (l:List Wr) (j:Nat) (x:Wr) (h:l[j]? = some x):oldWs (l.take (j + 1))=oldWs (l.take j) ++ oldW x:=by
 rw [List.take_add_one,h];simp [oldWs]
theorem oldW_len {x:Wr} (h:wE x=0):(oldW x).length≤400:=by
 have hf:=wE_facts h
 unfold oldW spanL
 simp only [List.length_append,List.length_cons,List.length_nil]
 have h1:=putL_le10 (n:=x.time.toNat) (by omega)
 have h2:=putL_le10 (n:=x.rep.toNat) (by omega)
 have h3:=putL_le10 (n:=x.key.data.toList.length) (by rw [←size_data];omega)
 have h4:=hf.2.2.2.2.2.2.2.2.1
 have h5:=size_data x.key
 omega
theorem oldWs_len (l:List Wr) (h:∀ x∈l,wE x=0):(oldWs l).length≤400 * l.length:=by
 induction l with
 | nil=>simp [oldWs]
 | cons x l ih =>
   rw [oldWs_cons,List.length_append,List.length_cons]
   have h1:=oldW_len (h x List.mem_cons_self)
   have h2:=ih (fun y hy=>h y (List.mem_cons_of_mem _ hy))
   omega
theorem plainL_len (l:List Ent) (h:rightV l):(plainL l).length≤330:=by
 unfold plainL
 rw [List.length_append]
 have h1:=putL_le10 (n:=l.length) (by have:=h.1;omega)
 have h2:=entsP_len l (fun e he=>by have:=okV_mem h.2 e he;omega)
 have:=h.1
 omega
theorem rightV_ok {l:List Ent} (h:rightV l):∀ e∈l,0≤e.rep∧e.rep≤200∧0≤e.time∧e.time≤1099511627776:=fun e he=>by have:=okV_mem h.2 e he;omega
theorem first_bad {f h:List Ent} {l:List Wr} {e:Nat} {pl:Int} (h0:batF f h l=(e,pl)) (he:e≠0):firstF f h l=([],e,pl):=by unfold firstF;rw [h0,if_pos he]
theorem first_ok {f h:List Ent} {l:List Wr} (h0:(batF f h l).1=0):firstF f h l=(sealL (80 :: 84 :: 1 :: oldL f h l),0,-1):=by unfold firstF;rw [if_neg (by rw [h0];simp)]
theorem row_bld {b B:Nat} {w w':World} {a0 a1 a2:Value} (h:NonB b w w') (hr:w.heap[B]? = some (.cells #[a0,a1,a2] 25 (0,0))) (hb:B≠b):w'.cell? ⟨B,0,none⟩=some a0∧w'.cell? ⟨B,1,none⟩=some a1∧w'.cell? ⟨B,2,none⟩=some a2:=by
 have h2:=(h B (Array.getElem?_eq_some_iff.1 hr).1 hb (fun cs fz e=>by rw [hr] at e;injection e with e;injection e with _ e;exact absurd e (by decide))).trans hr
 exact ⟨cell_of_row _ _ 0 _ _ (0,0) h2,cell_of_row _ _ 1 _ _ (0,0) h2,cell_of_row _ _ 2 _ _ (0,0) h2⟩
set_option maxRecDepth 100000 in
set_option maxHeartbeats 4000000 in
theorem ofirst_as (vf vh vw:Value) (f h:List Ent) (l:List Wr) (T:ByteArray) (e:Nat) (pl:Int) (w:World) (hx:BatIs w vf vh vw f h l) (hg:errT w) (hb:firstF f h l=(T.data.toList,e,pl)) :
   Calls Tryz.prog 15 #[.agg #[vf,vh,vw]] w fun r w'=>∃ err,r=.returned (.tuple #[.string T,err])∧anyErr w' err (e,pl)∧Below w.heap.size w w':=by
 have HX0:=Lib.hid hx
 obtain ⟨hf,hh,hv,_⟩:=hx
 obtain ⟨af,cf,rfl,_⟩:=hf.form
 obtain ⟨ah,ch,rfl,_⟩:=hh.form
 obtain ⟨aw,cw,rfl,hwf⟩:=hv.form
 obtain ⟨W,hW⟩:∃ W,w.alloc (.cells #[.slice af f.length cf,.slice ah h.length ch,.slice aw l.length cw] 25)=W:=⟨_,rfl⟩
 have HW:Hid (Below w.heap.size w W):=Lib.hid (by rw [←hW];exact (Below.refl _ _).alloc (Nat.le_refl _) _)
 have HZ:Hid (w.heap.size < W.heap.size):=Lib.hid (by rw [←hW];simp)
 have HBAT:Hid (W.heap[w.heap.size]? = some (.cells #[.slice af f.length cf,.slice ah h.length ch,.slice aw l.length cw] 25 (0,0))):=Lib.hid (by rw [←hW];exact heap_alloc_new w _)
 have HX:=Lib.hid (HX0.out.below HW.out)
 have HG:=Lib.hid (hg.below HW.out)
 obtain ⟨be,bp,hbf⟩:∃ be bp,batF f h l=(be,bp):=⟨_,_,rfl⟩
 have HBF:=Lib.hid hbf
 have HWF:=Lib.hid hwf
 by_cases hbe:be=0
 · subst hbe
   have hr:rightB f h l:=by unfold rightB;rw [hbf]
   rw [first_ok (by rw [hbf])] at hb
   injection hb with hT hb
   injection hb with h1 h2
   subst h1 h2
   obtain ⟨⟨g1,g2,_⟩,g4,g5,_⟩:=rightB_iff.1 hr
   have HWE:Hid (∀ x∈l,wE x=0):=Lib.hid (fun x hx=>(g5 x hx).1)
   obtain ⟨P,hP⟩:=of_data (plainL f)
   obtain ⟨Q,hQ⟩:=of_data (plainL h)
   obtain ⟨N,hN⟩:=of_data (putL l.length)
   have hPz:P.size≤330:=by rw [size_data,←hP];exact plainL_len f g1
   have hQz:Q.size≤330:=by rw [size_data,←hQ];exact plainL_len h g2
   have hNz:N.size≤10:=by rw [size_data,←hN];exact putL_le10 (by omega)
   have HPC:=Lib.hid (fun w' hi=>oplain_to (.slice af f.length cf) f P w' hi g1.1 (rightV_ok g1) hP)
   have HQC:=Lib.hid (fun w' hi=>oplain_to (.slice ah h.length ch) h Q w' hi g2.1 (rightV_ok g2) hQ)
   have HNC:=Lib.hid (fun w'=>onumput_to l.length N w' (by omega) hN)
   obtain ⟨I,hI⟩:=of_data (oldL f h l)
   have HI:Hid (P.data.toList ++ Q.data.toList ++ N.data.toList ++ oldWs l=I.data.toList):=Lib.hid (by rw [←hI,←hP,←hQ,←hN];rfl)
   have hIz:I.size≤1000000:=by
     have h3:=oldWs_len l HWE.out
     rw [size_data,←HI.out]
     simp only [List.length_append]
     rw [←size_data,←size_data,←size_data]
     omega
   have HFR:=Lib.hid (fun w'=>oframed_as 1 I T w' (by decide) hIz (by rw [←hI];exact hT))
   obtain ⟨n,hn⟩:∃ n,n=l.length:=⟨_,rfl⟩
   obtain ⟨nf,hnf⟩:∃ n,n=f.length:=⟨_,rfl⟩
   obtain ⟨nh,hnh⟩:∃ n,n=h.length:=⟨_,rfl⟩
   rw [←hn] at HX HBAT HNC g4
   rw [←hnf] at HX HBAT HPC
   rw [←hnh] at HX HBAT HQC
   have HN:=Lib.hid hn
   have a1:¬ (9223372036854775807 < P.size + Q.size):=by omega
   have a2:¬ (9223372036854775807 < (P ++ Q).size + N.size):=by rw [ByteArray.size_append];omega
   have a2':¬ (9223372036854775807 < P.size + Q.size + N.size):=by omega
   have HAZ:Hid ((P ++ Q ++ N).size≤1000):=Lib.hid (by rw [ByteArray.size_append,ByteArray.size_append];omega)
   have HAD:Hid ((P ++ Q ++ N).data.toList=P.data.toList ++ Q.data.toList ++ N.data.toList):=Lib.hid (by rw [app_dataO,app_dataO])
   have HHDL:Hid ((P.data.toList ++ Q.data.toList ++ N.data.toList).length≤1000):=Lib.hid (by rw [←HAD.out,←size_data];exact HAZ.out)
   have b0:=cell_of_row _ _ 0 _ _ (0,0) HBAT.out
   have b1:=cell_of_row _ _ 1 _ _ (0,0) HBAT.out
   have b2:=cell_of_row _ _ 2 _ _ (0,0) HBAT.out
   rw [←hn,←hnf,←hnh]
   rw [←hn,←hnf,←hnh] at hW
   clear hf hh hv hwf hbf hr hT g1 g2 g5 hP hQ hN hI hIz hPz hQz hNz hg hn hnf hnh
   go_enter Tryz.func15,Tryz.ntmps15
   go_wp2_with fail
   refine (brightB_as2 _ _ _ f h l 0 bp W HX.out HG.out HBF.out).mono ?_
   rintro r w1 ⟨err,rfl,hat,hb1⟩
   obtain rfl:=hat.nil rfl
   have HB1:Hid (Below w.heap.size w w1):=Lib.hid (HW.out.trans (hb1.mono HW.out.size))
   have HX1:=Lib.hid (HX.out.below hb1)
   have HT1:=Lib.hid ((hb1.block _ HZ.out).trans HBAT.out)
   have HZ1:Hid (w.heap.size < w1.heap.size):=Lib.hid (Nat.lt_of_lt_of_le HZ.out hb1.size)
   have HBN:=Lib.hid (bld_new w1 w.heap.size HB1.out.size)
   have HA1:Hid (Below w1.heap.size w1 (w1.alloc (.cells #[.pointer none,.slice none 0 0] 64))):=Lib.hid ((Below.refl _ _).alloc (Nat.le_refl _) _)
   clear hat hb1 b0 b1 b2 hW
   obtain ⟨W2,hW2⟩:∃ W2,w1.alloc (.cells #[.pointer none,.slice none 0 0] 64)=W2:=⟨_,rfl⟩
   rw [hW2] at HBN HA1
   have HX2:=Lib.hid (HX1.out.below HA1.out)
   have HT2:=Lib.hid ((HA1.out.block _ HZ1.out).trans HT1.out)
   have HB2:Hid (Below w.heap.size w W2):=Lib.hid (HB1.out.trans (HA1.out.mono HB1.out.size))
   have HZ2:Hid (w.heap.size < W2.heap.size):=Lib.hid (Nat.lt_of_lt_of_le HZ1.out HA1.out.size)
   have HTF:Hid (∀ w',Below W2.heap.size W2 w'→(w'.cell? ⟨w.heap.size,0,none⟩=some (.slice af nf cf)∧w'.cell? ⟨w.heap.size,1,none⟩=some (.slice ah nh ch)∧w'.cell? ⟨w.heap.size,2,none⟩=some (.slice aw n cw))):=Lib.hid (fun w' hb=>by
     have h2:=(hb.block _ HZ2.out).trans HT2.out
     exact ⟨cell_of_row _ _ 0 _ _ (0,0) h2,cell_of_row _ _ 1 _ _ (0,0) h2,cell_of_row _ _ 2 _ _ (0,0) h2⟩)
   have HFE:Hid (∀ w',Below W2.heap.size W2 w'→IsEnts w' (.slice af nf cf) f):=Lib.hid (fun w' hb=>(HX2.out.below hb).1)
   have HHE:Hid (∀ w',Below W2.heap.size W2 w'→IsEnts w' (.slice ah nh ch) h):=Lib.hid (fun w' hb=>(HX2.out.below hb).2.1)
   have HD2:Hid (Below W2.heap.size W2 W2.drew):=Lib.hid (Below.refl _ _).drew
   obtain ⟨Bb,hBb⟩:∃ Bb,w1.heap.size=Bb:=⟨_,rfl⟩
   rw [hBb] at HBN
   have HBW:=Lib.hid (fun w' hb=>bld_write2 w.heap.size Bb [] (P ++ Q ++ N) w' (HBN.out.below hb) (by have:=HAZ.out;simp only [List.length_nil];omega) (Nat.le_trans HB2.out.size hb.size))
   have HNE:Hid (w.heap.size≠Bb):=Lib.hid (by have:=HZ1.out;omega)
   have b0:=HTF.out W2 (Below.refl _ _)
   go_wp2
   go_region_held3 (fun w'=>w'.cell? ⟨w.heap.size,0,none⟩=some (.slice af nf cf)∧w'.cell? ⟨w.heap.size,1,none⟩=some (.slice ah nh ch)∧w'.cell? ⟨w.heap.size,2,none⟩=some (.slice aw n cw)) (first | exact b0 | exact k3 | exact k4 | exact k5 | exact k6 | fail) (first
     | (go_at_call 45;((with_reducible refine (HPC.out W2.drew (HFE.out _ HD2.out)).mono ?_);rintro r w3 ⟨rfl,hb3⟩;have HB3:Hid (Below W2.heap.size W2 w3):=Lib.hid (undrewP hb3);have k3:=HTF.out w3 HB3.out;clear hb3))
     | (go_at_call 45;((with_reducible refine (HQC.out w3 (HHE.out _ HB3.out)).mono ?_);rintro r w4 ⟨rfl,hb4⟩;have HB4:Hid (Below W2.heap.size W2 w4):=Lib.hid (HB3.out.trans (hb4.mono HB3.out.size));have k4:=HTF.out w4 HB4.out;clear hb4))
     | (go_at_call 46;((with_reducible refine (HNC.out w4).mono ?_);rintro r w5 ⟨rfl,hb5⟩;have HB5:Hid (Below W2.heap.size W2 w5):=Lib.hid (HB4.out.trans (hb5.mono HB4.out.size));have k5:=HTF.out w5 HB5.out;clear hb5))
     | (go_at_call 44;((with_reducible refine (HBW.out w5 HB5.out).mono ?_);rintro r w6 ⟨rfl,hbl6,hb6,hn6⟩;have HBL6:=Lib.hid hbl6;have HB6:Hid (Below w.heap.size w w6):=Lib.hid ((HB2.out.trans (HB5.out.mono HB2.out.size)).trans hb6);have k6:=row_bld hn6 ((HB5.out.block _ HZ2.out).trans HT2.out) HNE.out;clear hbl6 hb6 hn6))
     | fail)
   obtain ⟨c0,c1,c2⟩:=k6
   have HBL:Hid (isBld w6 w.heap.size Bb (P.data.toList ++ Q.data.toList ++ N.data.toList ++ oldWs (l.take 0))):=Lib.hid (by
     have h:=HBL6.out
     rw [List.nil_append,HAD.out] at h
     rw [List.take_zero,show oldWs []=[] from rfl,List.append_nil];exact h)
   clear b0 k3 k4 k5 HBL6
   go_wp2
   go_loopw [31] (fun iv wr=>∃ j:Nat,j≤n∧iv=.int .i64 j∧isBld wr w.heap.size Bb (P.data.toList ++ Q.data.toList ++ N.data.toList ++ oldWs (l.take j))∧Below w.heap.size w wr) (fun iv _=>n - (intOf iv).toNat)
   case atStart=>exact ⟨0,Nat.zero_le _,rfl,HBL.out,HB6.out⟩
   case round =>
     obtain ⟨j,hj,rfl,hbl,hb⟩:=hrel
     have HBJ:=Lib.hid hbl
     have HB:=Lib.hid hb
     clear hbl hb c0 c1 c2
     by_cases hlt:j < n
     · obtain ⟨x, hx⟩ : ∃ x, l[j]? = some x := ⟨l[j]'(by have := HN.out; omega), List.getElem?_eq_getElem _⟩
       have hwx:=HWE.out x (List.mem_of_getElem? hx)
       have hsn:=oldWs_snoc l j x hx
       have hxl:=oldW_len hwx
       have hpre:(oldWs (l.take j)).length≤24000:=by
         have h3:=oldWs_len (l.take j) (fun y hy=>HWE.out y (List.mem_of_mem_take hy))
         rw [List.length_take] at h3
         omega
       obtain ⟨bx,ox,rfl,hbx,p0,p1,p2,p3,p4,p5⟩:=HWF.out j x hx
       have hfx:=wE_facts hwx
       obtain ⟨tx,rx,kx,keyx,vx,nx⟩:=x
       obtain ⟨L,hL⟩:=of_data (oldW ⟨tx,rx,kx,keyx,vx,nx⟩)
       have hLz:L.size≤400:=by rw [size_data,←hL];exact hxl
       simp only at p0 p1 p2 p3 p4 p5 hfx
       obtain ⟨tn,rfl⟩:=Int.eq_ofNat_of_zero_le (show 0≤tx by omega)
       obtain ⟨rn,rfl⟩:=Int.eq_ofNat_of_zero_le (show 0≤rx by omega)
       obtain ⟨kn,rfl⟩:=Int.eq_ofNat_of_zero_le (show 0≤kx by omega)
       have HLC:=Lib.hid (fun w'=>oline_to tn rn kn keyx vx nx L w' hwx hL)
       have HNX:Hid (P.data.toList ++ Q.data.toList ++ N.data.toList ++ oldWs (l.take (j + 1))=P.data.toList ++ Q.data.toList ++ N.data.toList ++ oldWs (l.take j) ++ L.data.toList):=Lib.hid (by rw [hsn,hL];simp only [List.append_assoc])
       have HLEN:Hid ((P.data.toList ++ Q.data.toList ++ N.data.toList ++ oldWs (l.take j)).length + L.size≤140737488355328):=Lib.hid (by rw [List.length_append];have:=HHDL.out;omega)
       have q0:=(HB.out.cell (p:=⟨bx,ox + j * 6,none⟩) hbx).trans p0
       have q1:=(HB.out.cell (p:=⟨bx,ox + j * 6 + 1,none⟩) hbx).trans p1
       have q2:=(HB.out.cell (p:=⟨bx,ox + j * 6 + 2,none⟩) hbx).trans p2
       have q3:=(HB.out.cell (p:=⟨bx,ox + j * 6 + 3,none⟩) hbx).trans p3
       have q4:=(HB.out.cell (p:=⟨bx,ox + j * 6 + 4,none⟩) hbx).trans p4
       have q5:=(HB.out.cell (p:=⟨bx,ox + j * 6 + 5,none⟩) hbx).trans p5
       have hj0:(0:Int)≤(j:Int):=by omega
       have hj1:(j:Int) < (n:Int):=by omega
       clear p0 p1 p2 p3 p4 p5 hx hwx hsn hxl hpre hfx hL hLz
       go_wp2_with fail
       refine (HLC.out _).mono ?_
       rintro r w8 ⟨rfl,hb8⟩
       have HJ8:=Lib.hid ((HBJ.out.alloc (.cells #[.int .i64 (tn:Int),.int .i64 (rn:Int),.int .i64 (kn:Int),.string keyx,.string vx,.int .i64 nx] 59)).below hb8)
       have HB8:Hid (Below w.heap.size w w8):=Lib.hid ((HB.out.alloc HB.out.size _).trans (hb8.mono (by have:=HB.out.size;simp;omega)))
       clear hb8 q0 q1 q2 q3 q4 q5
       go_wp2_with fail
       refine (bld_write w.heap.size Bb _ L w8 HJ8.out HLEN.out HB8.out.size).mono ?_
       rintro r w9 ⟨rfl,hbl9,hb9⟩
       have HJ9:Hid (isBld w9 w.heap.size Bb (P.data.toList ++ Q.data.toList ++ N.data.toList ++ oldWs (l.take (j + 1)))):=Lib.hid (by rw [HNX.out];exact hbl9)
       have HB9:=Lib.hid (HB8.out.trans hb9)
       clear hbl9 hb9
       go_wp2
       go_roundw
       case rel=>exact ⟨j + 1,by omega,by go_num,HJ9.out,HB9.out⟩
       case measure=>simp [intOf];omega
     · obtain rfl:j=n:=by omega
       have HJI:Hid (isBld wr w.heap.size Bb I.data.toList):=Lib.hid (by
         have h:=HBJ.out
         rw [HN.out,List.take_length,HI.out] at h
         exact h)
       go_wp2_with fail
       refine (bld_string w.heap.size Bb _ wr HJI.out HB.out.size).mono ?_
       rintro r w8 ⟨rfl,hb8⟩
       rw [bs_of]
       have HB8:=Lib.hid (HB.out.trans hb8)
       clear hb8
       go_wp2_with fail
       refine (HFR.out w8).mono ?_
       rintro r w9 ⟨rfl,hb9⟩
       have HB9:Hid (Below w.heap.size w w9):=Lib.hid (HB8.out.trans (hb9.mono HB8.out.size))
       clear hb9
       go_wp2
       go_ret2
       exact ⟨_,rfl,.inl (.inl ⟨rfl,rfl⟩),HB9.out⟩
 · rw [first_bad hbf hbe] at hb
   injection hb with hT hb
   injection hb with h1 h2
   subst h1 h2
   have hTe:T=⟨#[]⟩:=by rw [←bs_of T,←hT]
   subst hTe
   have b0:=cell_of_row _ _ 0 _ _ (0,0) HBAT.out
   have b1:=cell_of_row _ _ 1 _ _ (0,0) HBAT.out
   have b2:=cell_of_row _ _ 2 _ _ (0,0) HBAT.out
   obtain ⟨n,hn⟩:∃ n,n=l.length:=⟨_,rfl⟩
   obtain ⟨nf,hnf⟩:∃ n,n=f.length:=⟨_,rfl⟩
   obtain ⟨nh,hnh⟩:∃ n,n=h.length:=⟨_,rfl⟩
   rw [←hn,←hnf,←hnh] at HX hW b0 b1 b2 ⊢
   clear hf hh hv hwf hbf hT hg HWF HBAT HX0
   clear hn hnf hnh
   go_enter Tryz.func15,Tryz.ntmps15
   go_wp2_with fail
   refine (brightB_as2 _ _ _ f h l be bp W HX.out HG.out HBF.out).mono ?_
   rintro r w1 ⟨err,rfl,hat,hb1⟩
   have HAT:=Lib.hid hat
   obtain ⟨t,u,rfl⟩:=hat.iface hbe
   have HB1:Hid (Below w.heap.size w w1):=Lib.hid (HW.out.trans (hb1.mono HW.out.size))
   clear hat hb1 b0 b1 b2
   go_wp2
   go_ret2
   exact ⟨_,rfl,HAT.out,HB1.out⟩
theorem second_bad {f h:List Ent} {l:List Wr} {s:List UInt8} {e:Nat} {pl:Int} (h0:bodyF f h l=(s,e,pl)) (he:e≠0):secondF f h l=([],e,pl):=by unfold secondF;rw [h0,if_pos he]
theorem second_ok {f h:List Ent} {l:List Wr} {s:List UInt8} {pl:Int} (h0:bodyF f h l=(s,0,pl)):secondF f h l=(sealL (80 :: 84 :: 2 :: s),0,-1):=by unfold secondF;rw [h0,if_neg (by simp)]
set_option maxRecDepth 100000 in
set_option maxHeartbeats 2000000 in
theorem osecond_as (vf vh vw:Value) (f h:List Ent) (l:List Wr) (T:ByteArray) (e:Nat) (pl:Int) (w:World) (hx:BatIs w vf vh vw f h l) (hg:errT w) (hb:secondF f h l=(T.data.toList,e,pl)) :
   Calls Tryz.prog 16 #[.agg #[vf,vh,vw]] w fun r w'=>∃ err,r=.returned (.tuple #[.string T,err])∧anyErr w' err (e,pl)∧Below w.heap.size w w':=by
 have HX:=Lib.hid hx
 have HG:=Lib.hid hg
 obtain ⟨hf,hh,hv,_⟩:=hx
 obtain ⟨af,cf,rfl,_⟩:=hf.form
 obtain ⟨ah,ch,rfl,_⟩:=hh.form
 obtain ⟨aw,cw,rfl,_⟩:=hv.form
 obtain ⟨S,x,q,hbf⟩:∃ (S:ByteArray) (x:Nat) (q:Int),bodyF f h l=(S.data.toList,x,q):=⟨⟨(bodyF f h l).1.toArray⟩,(bodyF f h l).2.1,(bodyF f h l).2.2,by simp⟩
 have HBF:=Lib.hid hbf
 obtain ⟨d0,d1,d2⟩:=batAt_new w (.slice af f.length cf) (.slice ah h.length ch) (.slice aw l.length cw) 25
 have HW:Hid (Below w.heap.size w (w.alloc (.cells #[.slice af f.length cf,.slice ah h.length ch,.slice aw l.length cw] 25))):=Lib.hid ((Below.refl _ _).alloc (Nat.le_refl _) _)
 generalize f.length=nf at HX HW d0 d1 d2 ⊢
 generalize h.length=nh at HX HW d0 d1 d2 ⊢
 generalize l.length=n at HX HW d0 d1 d2 ⊢
 clear hf hh hv hg
 by_cases hx0:x=0
 · subst hx0
   rw [second_ok hbf] at hb
   injection hb with hT hb
   injection hb with h1 h2
   subst h1 h2
   have hsz:S.size≤1000000:=by have:=bodyF_fits hbf;rw [←size_data] at this;omega
   have HFR:=Lib.hid (fun w'=>oframed_as 2 S T w' (by decide) hsz hT)
   clear hbf hT hsz
   go_enter Tryz.func16,Tryz.ntmps16
   go_wp2_with fail
   refine (bwrite_any _ _ _ f h l _ (HX.out.below HW.out) (HG.out.below HW.out)).mono ?_
   rintro r w1 ⟨err,rfl,hat,hb1⟩
   rw [HBF.out] at hat ⊢
   obtain rfl:=hat.nil rfl
   rw [bs_of]
   have HB1:Hid (Below w.heap.size w w1):=Lib.hid (HW.out.trans (hb1.mono HW.out.size))
   clear hb1 hat d0 d1 d2
   go_wp2_with fail
   refine (HFR.out w1).mono ?_
   rintro r w2 ⟨rfl,hb2⟩
   have HB2:Hid (Below w.heap.size w w2):=Lib.hid (HB1.out.trans (hb2.mono HB1.out.size))
   clear hb2
   go_wp2
   go_ret2
   exact ⟨_,rfl,.inl (.inl ⟨rfl,rfl⟩),HB2.out⟩
 · rw [second_bad hbf hx0] at hb
   injection hb with hT hb
   injection hb with h1 h2
   subst h1 h2
   have hTe:T=⟨#[]⟩:=by rw [←bs_of T,←hT]
   subst hTe
   clear hbf hT
   go_enter Tryz.func16,Tryz.ntmps16
   go_wp2_with fail
   refine (bwrite_any _ _ _ f h l _ (HX.out.below HW.out) (HG.out.below HW.out)).mono ?_
   rintro r w1 ⟨err,rfl,hat,hb1⟩
   rw [HBF.out] at hat ⊢
   have HAT:=Lib.hid hat
   obtain ⟨t,u,rfl⟩:=hat.iface hx0
   have HB1:Hid (Below w.heap.size w w1):=Lib.hid (HW.out.trans (hb1.mono HW.out.size))
   clear hb1 hat d0 d1 d2
   go_wp2
   go_ret2
   exact ⟨_,rfl,HAT.out,HB1.out⟩
end Go.Proofs.YtjkbmfpomgcblaaGreatDoor
namespace Go.Proofs.YtjkbmfpomgcblaaGreatDoor
open Go.RowKit
theorem rvaryO_to (n:Nat) (N:ByteArray) (w:World) (h:n≤9223372036854775807) (hN:putL n=N.data.toList) :
   Calls Tryz.prog 63 #[.int .u64 (n:Int)] w fun e w'=>e=.returned (.string N)∧Below w.heap.size w w':=by
 have h1:=rvary_any n w (by omega)
 rw [show (⟨(putL n).toArray⟩:ByteArray)=N by rw [hN,bs_of]] at h1
 exact h1
set_option maxRecDepth 100000 in
set_option maxHeartbeats 2000000 in
theorem rplain_to (v:Value) (l:List Ent) (P:ByteArray) (w:World) (hv:IsEnts w v l) (hl:l.length≤16) (hok:∀ e∈l,0≤e.rep∧e.rep≤200∧0≤e.time∧e.time≤1099511627776) (hP:plainL l=P.data.toList) :
   Calls Tryz.prog 62 #[v] w fun e w'=>e=.returned (.string P)∧Below w.heap.size w w':=by
 obtain ⟨a,c,rfl,hf⟩:=hv.form
 obtain ⟨n,hn⟩:∃ n,n=l.length:=⟨_,rfl⟩
 rw [←hn] at hl ⊢
 obtain ⟨N,hN⟩:=of_data (putL n)
 have HNZ:Hid (N.size≤10):=Lib.hid (by rw [size_data,←hN];exact putL_le10 (by omega))
 have HN:=Lib.hid hN
 have HLN:=Lib.hid hn
 have HF:=Lib.hid hf
 have HOK:=Lib.hid hok
 have HP:=Lib.hid hP
 have HNC:=Lib.hid (fun w'=>rvaryO_to n N w' (by omega) hN)
 have hnu:IntKind.u64.wrap (n:Int)=(n:Int):=by rw [IntKind.wrap_u64];omega
 clear hv hN hn hf hok hP
 go_enter Tryz.func62,Tryz.ntmps62
 go_wp2_with fail
 refine (HNC.out w).mono ?_
 rintro r w1 ⟨rfl,hb1⟩
 have HB1:=Lib.hid hb1
 clear hb1
 go_wp2
 go_loopw [3,12] (fun sv iv wr=>∃ (j:Nat) (S:ByteArray),j≤n∧iv=.int .i64 j∧sv=.string S∧S.data.toList=putL n ++ entsP (l.take j)∧Below w.heap.size w wr) (fun _ iv _=>n - (intOf iv).toNat)
 case atStart=>exact ⟨0,N,Nat.zero_le _,rfl,rfl,by rw [←HN.out];simp [entsP],HB1.out⟩
 case round =>
   obtain ⟨j,S,hj,rfl,rfl,hS,hb⟩:=hrel
   have HS:=Lib.hid hS
   have HB:=Lib.hid hb
   clear hS hb
   by_cases hlt:j < n
   · obtain ⟨t, ht⟩ : ∃ t, l[j]? = some t := ⟨l[j]'(by have := HLN.out; omega), List.getElem?_eq_getElem _⟩
     obtain ⟨b,off,rfl,hbw,p0,p1⟩:=HF.out j t ht
     obtain ⟨rep,time⟩:=t
     have hk:=HOK.out _ (List.mem_of_getElem? ht)
     have hsn:=entsP_snoc l j _ ht
     simp only at p0 p1 hk hsn
     obtain ⟨rn,rfl⟩:=Int.eq_ofNat_of_zero_le hk.1
     obtain ⟨tn,rfl⟩:=Int.eq_ofNat_of_zero_le hk.2.2.1
     rw [Int.toNat_natCast,Int.toNat_natCast] at hsn
     obtain ⟨A,hA⟩:=of_data (putL rn)
     obtain ⟨C,hC⟩:=of_data (putL tn)
     have HAC:=Lib.hid (fun w'=>rvaryO_to rn A w' (by omega) hA)
     have HCC:=Lib.hid (fun w'=>rvaryO_to tn C w' (by omega) hC)
     have hAz:A.size≤10:=by rw [size_data,←hA];exact putL_le10 (by omega)
     have hCz:C.size≤10:=by rw [size_data,←hC];exact putL_le10 (by omega)
     have hSz:S.size≤1000:=by
       rw [size_data,HS.out,List.length_append]
       have h1:=entsP_len (l.take j) (fun e he=>HOK.out e (List.mem_of_mem_take he))
       rw [List.length_take] at h1
       have h2:=putL_le10 (n:=n) (by omega)
       omega
     have HNX:Hid ((S ++ (A ++ C)).data.toList=putL n ++ entsP (l.take (j + 1))):=Lib.hid (by rw [app_dataO,app_dataO,HS.out,hsn,←hA,←hC,List.append_assoc])
     have ha1:¬ (9223372036854775807 < A.size + C.size):=by omega
     have ha2:¬ (9223372036854775807 < S.size + (A ++ C).size):=by rw [ByteArray.size_append];omega
     have ha3:¬ (9223372036854775807 < S.size + (A.size + C.size)):=by omega
     have hru:IntKind.u64.wrap (rn:Int)=(rn:Int):=by rw [IntKind.wrap_u64];omega
     have htu:IntKind.u64.wrap (tn:Int)=(tn:Int):=by rw [IntKind.wrap_u64];omega
     have q0:=(HB.out.cell (p:=⟨b,off + j * 2,none⟩) hbw).trans p0
     have q1:=(HB.out.cell (p:=⟨b,off + j * 2 + 1,none⟩) hbw).trans p1
     have hj0:(0:Int)≤(j:Int):=by omega
     have hj1:(j:Int) < (n:Int):=by omega
     obtain ⟨W,hW⟩:∃ W,wr.alloc (.cells #[.int .i64 (rn:Int),.int .i64 (tn:Int)] 74)=W:=⟨_,rfl⟩
     have HW:Hid (Below w.heap.size w W):=Lib.hid (by rw [←hW];exact HB.out.alloc HB.out.size _)
     have hrow:W.heap[wr.heap.size]? = some (.cells #[.int .i64 (rn:Int),.int .i64 (tn:Int)] 74 (0,0)):=by subst hW;exact heap_alloc_new wr _
     have hwl:wr.heap.size < W.heap.size:=by subst hW;simp
     have HROW:Hid (∀ w',Below W.heap.size W w'→(w'.cell? ⟨wr.heap.size,0,none⟩=some (.int .i64 (rn:Int))∧w'.cell? ⟨wr.heap.size,1,none⟩=some (.int .i64 (tn:Int)))):=Lib.hid (fun w' hb=>by
       have h2:=(hb.block wr.heap.size hwl).trans hrow
       exact ⟨cell_of_row _ _ 0 _ _ (0,0) h2,cell_of_row _ _ 1 _ _ (0,0) h2⟩)
     clear hrow hwl
     clear p0 p1 ht hk hsn hA hC hAz hCz hSz
     have k0:=HROW.out W (Below.refl _ _)
     go_wp2
     go_region_held3 (fun w'=>w'.cell? ⟨wr.heap.size,0,none⟩=some (.int .i64 (rn:Int))∧w'.cell? ⟨wr.heap.size,1,none⟩=some (.int .i64 (tn:Int))) (first | exact k0 | exact k1 | exact k2 | fail) (first
       | (go_at_call 63;((with_reducible refine (HAC.out W.drew).mono ?_);rintro r w2 ⟨rfl,hb2⟩;have HB2:Hid (Below W.heap.size W w2):=Lib.hid (undrewP hb2);have k1:=HROW.out w2 HB2.out;clear hb2))
       | (go_at_call 63;((with_reducible refine (HCC.out w2).mono ?_);rintro r w3 ⟨rfl,hb3⟩;have HB3:Hid (Below W.heap.size W w3):=Lib.hid (HB2.out.trans (hb3.mono HB2.out.size));have k2:=HROW.out w3 HB3.out;clear hb3))
       | fail)
     clear q0 q1 k0 k1 k2
     have HBX:Hid (Below w.heap.size w w3):=Lib.hid (HW.out.trans (HB3.out.mono HW.out.size))
     go_wp2
     go_roundw
     case rel=>exact ⟨j + 1,S ++ (A ++ C),by omega,by go_num,rfl,HNX.out,HBX.out⟩
     case measure=>simp [intOf];omega
   · obtain rfl:j=n:=by omega
     have HSP:Hid (S=P):=Lib.hid (by
       apply bytes_ext
       rw [HS.out,←HP.out,HLN.out,List.take_length]
       rfl)
     go_wp2
     go_ret
     exact ⟨by rw [HSP.out];rfl,HB.out⟩
end Go.Proofs.YtjkbmfpomgcblaaGreatDoor
namespace Go.Proofs.YtjkbmfpomgcblaaGreatDoor
open Go.RowKit
set_option maxRecDepth 100000 in
set_option maxHeartbeats 4000000 in
theorem rsecond_as (vf vh vw:Value) (f h:List Ent) (l:List Wr) (T:ByteArray) (e:Nat) (pl:Int) (w:World) (hx:BatIs w vf vh vw f h l) (hb:secondF f h l=(T.data.toList,e,pl)) :
   Calls Tryz.prog 30 #[.agg #[vf,vh,vw]] w fun r w'=>r=.returned (.tuple #[.string T,.agg #[.int .i64 (e:Int),.int .i64 pl]])∧Below w.heap.size w w':=by
 have HX:=Lib.hid hx
 obtain ⟨hf,hh,hv,_⟩:=hx
 obtain ⟨af,cf,rfl,_⟩:=hf.form
 obtain ⟨ah,ch,rfl,_⟩:=hh.form
 obtain ⟨aw,cw,rfl,_⟩:=hv.form
 obtain ⟨S,x,q,hbf⟩:∃ (S:ByteArray) (x:Nat) (q:Int),bodyF f h l=(S.data.toList,x,q):=⟨⟨(bodyF f h l).1.toArray⟩,(bodyF f h l).2.1,(bodyF f h l).2.2,by simp⟩
 have HBF:=Lib.hid hbf
 generalize f.length=nf at HX ⊢
 generalize h.length=nh at HX ⊢
 generalize l.length=n at HX ⊢
 have HA:=Lib.hid ((batAt_new w (.slice af nf cf) (.slice ah nh ch) (.slice aw n cw) 25).below ((Below.refl _ _).alloc (Nat.le_refl _) (.cells #[.int .i64 0,.int .i64 0] 46)) (by simp))
 have HF:Hid (rowF ((w.alloc (.cells #[.slice af nf cf,.slice ah nh ch,.slice aw n cw] 25)).alloc (.cells #[.int .i64 0,.int .i64 0] 46)) (w.heap.size + 1) 0 0):=Lib.hid (heap_alloc2_new w _ _)
 have HW:Hid (Below w.heap.size w ((w.alloc (.cells #[.slice af nf cf,.slice ah nh ch,.slice aw n cw] 25)).alloc (.cells #[.int .i64 0,.int .i64 0] 46))):=Lib.hid (((Below.refl _ _).alloc (Nat.le_refl _) _).alloc (by simp) _)
 have HZ:Hid (w.heap.size + 1 < ((w.alloc (.cells #[.slice af nf cf,.slice ah nh ch,.slice aw n cw] 25)).alloc (.cells #[.int .i64 0,.int .i64 0] 46)).heap.size):=Lib.hid (by simp)
 have HBW:Hid (w.heap.size≤w.heap.size + 1):=Lib.hid (Nat.le_succ _)
 obtain ⟨A1,hA1⟩:∃ A:ByteArray,(⟨#[80,84,2]⟩:ByteArray)=A:=⟨_,rfl⟩
 have HA1:=Lib.hid hA1
 have HAz1:Hid (A1.size=3):=Lib.hid (by rw [←hA1];rfl)
 clear hf hh hv hA1
 go_enter Tryz.func30,Tryz.ntmps30
 rw [HA1.out]
 go_wp2_with fail
 generalize (w.alloc (.cells #[.slice af nf cf,.slice ah nh ch,.slice aw n cw] 25)).alloc (.cells #[.int .i64 0,.int .i64 0] 46)=W at HA HF HW HZ ⊢
 generalize w.heap.size + 1=F at HF HZ HBW ⊢
 refine (rbody_as _ _ _ f h l S x q W (HX.out.below HW.out) HBF.out).mono ?_
 rintro r w1 ⟨rfl,hb1⟩
 have HB1:Hid (Below W.heap.size W (w1.alloc (.cells #[.int .i64 (x:Int),.int .i64 q] 46))):=Lib.hid (hb1.alloc hb1.size _)
 have HF1:=Lib.hid (HF.out.below HB1.out HZ.out)
 have HT1:Hid (rowF (w1.alloc (.cells #[.int .i64 (x:Int),.int .i64 q] 46)) w1.heap.size (x:Int) q):=Lib.hid (heap_alloc_new w1 _)
 have HW1:Hid (Below w.heap.size w (w1.alloc (.cells #[.int .i64 (x:Int),.int .i64 q] 46))):=HW.out.trans (HB1.out.mono HW.out.size)
 have HZ1:Hid (F < w1.heap.size∧w1.heap.size < (w1.alloc (.cells #[.int .i64 (x:Int),.int .i64 q] 46)).heap.size):=Lib.hid ⟨Nat.lt_of_lt_of_le HZ.out hb1.size,by simp⟩
 clear hb1
 obtain ⟨c0,c1⟩:=HT1.out.at
 go_wp2_with fail
 generalize w1.alloc (.cells #[.int .i64 (x:Int),.int .i64 q] 46)=W1 at HB1 HF1 HT1 HW1 HZ1 c0 c1 ⊢
 generalize w1.heap.size=G at HT1 HZ1 c0 c1 ⊢
 refine (is_any (x:Int) q _).mono ?_
 rintro r w2 ⟨rfl,hb2⟩
 have HF2:=Lib.hid (HF1.out.below hb2 (by have:=HZ1.out;omega))
 have HT2:=Lib.hid (HT1.out.below hb2 HZ1.out.2)
 have HW2:Hid (Below w.heap.size w w2):=HW1.out.trans (hb2.mono HW1.out.size)
 have HZ2:Hid (F < G∧G < w2.heap.size):=Lib.hid ⟨HZ1.out.1,Nat.lt_of_lt_of_le HZ1.out.2 hb2.size⟩
 clear hb2 c0 c1 HB1
 obtain ⟨c0,c1⟩:=HT2.out.at
 obtain ⟨c2,c3⟩:=HF2.out.at
 have g0:=HF2.out.frozen 0
 have g1:=HF2.out.frozen 1
 by_cases hx0:x=0
 · subst hx0
   have hq:q=-1:=bodyF_minus hbf
   subst hq
   rw [second_ok hbf] at hb
   injection hb with hT hb
   injection hb with h1 h2
   subst h1 h2
   have hsz:S.size≤900000:=by have:=bodyF_fits hbf;rw [←size_data] at this;omega
   have HSL:Hid (sealL (A1 ++ S).data.toList=T.data.toList):=Lib.hid (by rw [←HA1.out,←hT];simp)
   have ha0:=HAz1.out
   have ha1:¬ (9223372036854775807 < A1.size + S.size):=by omega
   have HSZ:Hid ((A1 ++ S).size≤1000000):=Lib.hid (by rw [ByteArray.size_append];omega)
   have hz:((0:Int) == 0)=true:=rfl
   have HNE:Hid (G≠F):=Lib.hid (by have:=HZ2.out;omega)
   clear hbf hT hsz ha0
   go_wp2
   go_region_held3 (fun w'=>w'.cell? ⟨G,0,none⟩=some (.int .i64 0)∧w'.cell? ⟨G,1,none⟩=some (.int .i64 (-1))) (first | exact ⟨c0,c1⟩ | exact k1 | exact k2 | fail) (first
     | (go_at_call 66;((refine (rseal_to _ T _ HSZ.out HSL.out).mono ?_);rintro r w5 ⟨rfl,hb5⟩;have HB5:Hid (Below w2.heap.size w2 w5):=Lib.hid (undrew hb5);have HT5:=Lib.hid (HT2.out.below HB5.out HZ2.out.2);have k1:=HT5.out.at;have k2:=(HT5.out.away HNE.out (.int .i64 0) (.int .i64 (-1))).at;have HF5:=Lib.hid (HF2.out.below HB5.out (by have:=HZ2.out;omega));obtain ⟨c4,c5⟩:=HF5.out.at;have g4:=HF5.out.frozen 0;have g5:=HF5.out.frozen 1;clear hb5))
     | fail)
   have HF6:Hid (rowF ((w5.setCell ⟨F,0,none⟩ (.int .i64 0)).setCell ⟨F,1,none⟩ (.int .i64 (-1))) F 0 (-1)):=Lib.hid (HF5.out.put 0 (-1))
   have HW6:Hid (Below w.heap.size w ((w5.setCell ⟨F,0,none⟩ (.int .i64 0)).setCell ⟨F,1,none⟩ (.int .i64 (-1)))):=Lib.hid (below_put (HW2.out.trans (HB5.out.mono HW2.out.size)) HBW.out _ _)
   generalize (w5.setCell ⟨F,0,none⟩ (.int .i64 0)).setCell ⟨F,1,none⟩ (.int .i64 (-1))=w6 at HF6 HW6 ⊢
   clear c0 c1 c2 c3 c4 c5 g0 g1 g4 g5 k1 k2
   obtain ⟨c0,c1⟩:=HF6.out.at
   go_wp2
   refine bodyPost_ret (v:=.tuple #[.string T,.agg #[.int .i64 0,.int .i64 (-1)]]) (by simp [results,Tryz.results30,go_sem,c0,c1]) rfl ?_
   exact ⟨rfl,HW6.out⟩
 · have hz:((x:Int) == 0)=false:=by simp;omega
   rw [second_bad hbf hx0] at hb
   injection hb with hT hb
   injection hb with h1 h2
   subst h1 h2
   have hTe:T=⟨#[]⟩:=by rw [←bs_of T,←hT]
   subst hTe
   clear hbf
   go_wp2
   go_region
   have HF3:Hid (rowF ((w2.setCell ⟨F,0,none⟩ (.int .i64 (x:Int))).setCell ⟨F,1,none⟩ (.int .i64 q)).drew F x q):=Lib.hid (HF2.out.put x q)
   have HW3:Hid (Below w.heap.size w ((w2.setCell ⟨F,0,none⟩ (.int .i64 (x:Int))).setCell ⟨F,1,none⟩ (.int .i64 q)).drew):=Lib.hid (below_put HW2.out HBW.out _ _).drew
   generalize ((w2.setCell ⟨F,0,none⟩ (.int .i64 (x:Int))).setCell ⟨F,1,none⟩ (.int .i64 q)).drew=w3 at HF3 HW3 ⊢
   clear c0 c1 c2 c3 g0 g1
   obtain ⟨c0,c1⟩:=HF3.out.at
   go_wp2
   refine bodyPost_ret (v:=.tuple #[.string ⟨#[]⟩,.agg #[.int .i64 (x:Int),.int .i64 q]]) (by simp [results,Tryz.results30,go_sem,c0,c1]) rfl ?_
   exact ⟨rfl,HW3.out⟩
end Go.Proofs.YtjkbmfpomgcblaaGreatDoor
