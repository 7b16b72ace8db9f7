import Derived.Test.YtjkbmfpomgcblaaGreatDoorKw17
namespace Go.Proofs.YtjkbmfpomgcblaaGreatDoor
open Go.RowKit
def WrtnIs (w:World) (r:List UInt8×Nat×Int) (e:Ending) (w':World):Prop :=
 Below w.heap.size w w'∧((r.2=(0,-1)∧e=.returned (.string ⟨r.1.toArray⟩))∨(r.2.1≠0∧r.1=[]∧∃ t v,e=.panicked [{ v:=.iface t v,recovered:=false }]∧anyErr w' (.iface t v) r.2))
def WU (w1:World) (vt vn:Value) (T:List ByteArray) (N:List Nat) (pre:List UInt8) (wr:World):Prop :=
 isBldW wr w1.heap.size w1.heap.size pre∧Below w1.heap.size w1 wr∧ownsS wr (w1.heap.size + 1) vt T∧ownsN wr (w1.heap.size + 1) vn N
theorem WU.lt {w1 wr:World} {vt vn:Value} {T:List ByteArray} {N:List Nat} {pre:List UInt8} (h:WU w1 vt vn T N pre wr):w1.heap.size < wr.heap.size:=h.1.lt.2
theorem WU.calls {w1 wr w':World} {vt vn:Value} {T:List ByteArray} {N:List Nat} {pre:List UInt8} (h:WU w1 vt vn T N pre wr) (hb:Below wr.heap.size wr w'):WU w1 vt vn T N pre w' :=
 ⟨h.1.below hb,h.2.1.trans (hb.mono h.2.1.size),h.2.2.1.below hb,h.2.2.2.below hb⟩
theorem WU.alloc {w1 wr:World} {vt vn:Value} {T:List ByteArray} {N:List Nat} {pre:List UInt8} (h:WU w1 vt vn T N pre wr) (o:Obj):WU w1 vt vn T N pre (wr.alloc o):=h.calls ((Below.refl _ _).alloc (Nat.le_refl _) o)
theorem WU.put {w1 wr w':World} {vt vn:Value} {T:List ByteArray} {N:List Nat} {pre pre':List UInt8} (h:WU w1 vt vn T N pre wr) (h1:isBldW w' w1.heap.size w1.heap.size pre') (hb:Below w1.heap.size wr w') (hn:NonB w1.heap.size wr w'):WU w1 vt vn T N pre' w' :=
 ⟨h1,h.2.1.trans hb,NonB.row hn h.2.2.1 (by decide) (fun e=>by have:=(h.2.2.1.lt _ e).1;omega),NonB.row hn h.2.2.2 (by decide) (fun e=>by have:=(h.2.2.2.lt _ e).1;omega)⟩
def WQ (w1:World) (vt vn:Value) (T:List ByteArray) (N:List Nat) (Q:Nat) (x:Wr) (pre:List UInt8) (wr:World):Prop :=
 WU w1 vt vn T N pre wr∧wrBlk wr Q x∧w1.heap.size < Q
theorem WQ.calls {w1 wr w':World} {vt vn:Value} {T:List ByteArray} {N:List Nat} {Q:Nat} {x:Wr} {pre:List UInt8} (h:WQ w1 vt vn T N Q x pre wr) (hb:Below wr.heap.size wr w'):WQ w1 vt vn T N Q x pre w' :=
 ⟨h.1.calls hb,(hb.block Q (Array.getElem?_eq_some_iff.1 h.2.1).1).trans h.2.1,h.2.2⟩
theorem WQ.put {w1 wr w':World} {vt vn:Value} {T:List ByteArray} {N:List Nat} {Q:Nat} {x:Wr} {pre pre':List UInt8} (h:WQ w1 vt vn T N Q x pre wr) (h1:isBldW w' w1.heap.size w1.heap.size pre') (hb:Below w1.heap.size wr w') (hn:NonB w1.heap.size wr w'):WQ w1 vt vn T N Q x pre' w' :=
 ⟨h.1.put h1 hb hn,(hn Q (Array.getElem?_eq_some_iff.1 h.2.1).1 (by have:=h.2.2;omega) (fun cs fz hc=>by rw [h.2.1] at hc;injection hc with hc;injection hc with _ ht;exact absurd ht (by decide))).trans h.2.1,h.2.2⟩
theorem WQ.cells {w1 wr:World} {vt vn:Value} {T:List ByteArray} {N:List Nat} {Q:Nat} {x:Wr} {pre:List UInt8} (h:WQ w1 vt vn T N Q x pre wr):wrAt wr Q x.time x.rep x.kind x.key x.value x.n :=
 ⟨cell_of_row _ _ 0 _ _ _ h.2.1,cell_of_row _ _ 1 _ _ _ h.2.1,cell_of_row _ _ 2 _ _ _ h.2.1,cell_of_row _ _ 3 _ _ _ h.2.1,cell_of_row _ _ 4 _ _ _ h.2.1,cell_of_row _ _ 5 _ _ _ h.2.1⟩
theorem bvwrite (v:Value) (l:List Ent) (T:ByteArray) (w:World) (hv:IsEnts w v l) (hl:l.length≤9223372036854775807) (hr:rightV l) (hT:vwriteL l=T.data.toList) :
   Calls Tryz.prog 105 #[v] w fun e w'=>e=.returned (.tuple #[.string T,.nilIface])∧Below w.heap.size w w' :=
 (vwrite_any v l w hv hl).mono fun e w' ⟨err,h1,h2,h3⟩=>by
   have h0:=(vright_ok l).2 hr
   obtain rfl:=h2.nil h0
   refine ⟨?_,h3⟩
   rw [h1,show vwriteF l=vwriteL l by unfold vwriteF;rw [if_pos h0],hT,bs_of]
theorem btail (x:Wr) (B:ByteArray) (w:World) (h:wE x=0) (hB:tailB x.kind x.value x.n=B) :
   Calls Tryz.prog 94 #[.agg #[.int .i64 x.time,.int .i64 x.rep,.int .i64 x.kind,.string x.key,.string x.value,.int .i64 x.n]] w fun e w'=>e=.returned (.tuple #[.string B,.nilIface])∧Below w.heap.size w w':=by
 have hf:=wE_facts h
 refine (wtail_any x.time x.rep x.kind x.key x.value x.n w (by omega) (by omega)).mono ?_
 rintro e w' ⟨rfl,hb⟩
 refine ⟨?_,hb⟩
 rw [tailF_ok h,hB];rfl
theorem brightB_as2 (vf vh vw:Value) (f h:List Ent) (l:List Wr) (e:Nat) (pl:Int) (w:World) (hx:BatIs w vf vh vw f h l) (hg:errT w) (hb:batF f h l=(e,pl)) :
   Calls Tryz.prog 43 #[.agg #[vf,vh,vw]] w (VRightIs w (e,pl)):=by
 rw [←hb];exact brightB vf vh vw f h l w hx hg
set_option maxRecDepth 100000 in
set_option maxHeartbeats 4000000 in
theorem written_bad (vf vh vw:Value) (f h:List Ent) (l:List Wr) (w:World) (hx:BatIs w vf vh vw f h l) (hg:errT w) (h0:(batF f h l).1≠0) :
   Calls Tryz.prog 59 #[.agg #[vf,vh,vw]] w (WrtnIs w (bodyF f h l)):=by
 obtain ⟨W0,hW0⟩:∃ W0,w.alloc (.cells #[vf,vh,vw] 25)=W0:=⟨_,rfl⟩
 have hb0:Below w.heap.size w W0:=by rw [←hW0];exact (Below.refl _ _).alloc (Nat.le_refl _) _
 have HX:Hid (BatIs W0 vf vh vw f h l):=Lib.hid (by rw [←hW0];exact hx.alloc _)
 have HG:Hid (errT W0):=Lib.hid (by rw [←hW0];exact hg.alloc _)
 obtain ⟨c0,c1,c2⟩:=batAt_new w vf vh vw 25
 rw [hW0] at c0 c1 c2
 obtain ⟨af,cf,rfl,_⟩:=hx.1.form
 obtain ⟨ah,ch,rfl,_⟩:=hx.2.1.form
 obtain ⟨aw,cw,rfl,_⟩:=hx.2.2.1.form
 generalize f.length=nf at hW0 HX c0 ⊢
 generalize h.length=nh at hW0 HX c1 ⊢
 generalize l.length=n at hW0 HX c2 ⊢
 have HF:=Lib.hid (bodyF_bad h0)
 have H0:=Lib.hid h0
 have HB0:=Lib.hid hb0
 clear hx hg hb0 h0
 go_enter Tryz.func59,Tryz.ntmps59
 go_wp2_with fail
 refine (brightB _ _ _ f h l _ HX.out HG.out).mono ?_
 rintro r w1 ⟨err,rfl,hat,hb1⟩
 obtain ⟨t,u,rfl⟩:=hat.iface H0.out
 have HA:=Lib.hid hat
 have HB1:=Lib.hid (HB0.out.trans (hb1.mono HB0.out.size))
 clear hat hb1 c0 c1 c2
 go_wp2_with fail
 refine (bthrow_err t u _).mono ?_
 rintro r w2 ⟨rfl,rfl⟩
 refine And.intro rfl ⟨HB1.out,.inr ⟨?_,?_,t,u,rfl,?_⟩⟩
 · rw [HF.out];exact H0.out
 · rw [HF.out]
 · rw [HF.out];exact HA.out
theorem pre_le {pre rest L:List UInt8} (h:pre ++ rest=L) (hL:L.length≤40000):pre.length≤1000000:=by
 have:=congrArg List.length h
 rw [List.length_append] at this
 omega
theorem texts_step {T:List ByteArray} {k:Nat} {s:ByteArray} (h:T[k]? = some s) (pre:List UInt8):pre ++ textsB (T.drop k)=(pre ++ spanL s.data.toList) ++ textsB (T.drop (k + 1)):=by
 obtain ⟨hk,e⟩:=List.getElem?_eq_some_iff.1 h
 rw [List.drop_eq_getElem_cons hk,e,textsB_cons,List.append_assoc]
theorem row_step {h:List Ent} {T:List ByteArray} {l:List Wr} {N:List Nat} {k:Nat} {ahead:Int} {x:Wr} (hx:l[k]? = some x) (ho:okRow h T ahead (l.drop k) (N.drop k)) :
   ∃ n,N[k]? = some n∧(wE x=0∧ahead≤x.time∧placeF h x.rep < h.length∧T[n]? = some x.key)∧okRow h T x.time (l.drop (k + 1)) (N.drop (k + 1))∧rowB h ahead (l.drop k) (N.drop k)=oneB h ahead x n ++ rowB h x.time (l.drop (k + 1)) (N.drop (k + 1)):=by
 obtain ⟨hk,e⟩:=List.getElem?_eq_some_iff.1 hx
 rw [List.drop_eq_getElem_cons hk,e] at ho ⊢
 match hN:N.drop k with
 | []=>rw [hN] at ho;exact absurd ho id
 | n :: M =>
   rw [hN] at ho
   have hnk:k < N.length:=by
     rcases Nat.lt_or_ge k N.length with h' | h'
     · exact h'
     · rw [List.drop_of_length_le h'] at hN;cases hN
   rw [List.drop_eq_getElem_cons hnk] at hN
   injection hN with h1 h2
   subst h2
   exact ⟨n,by rw [←h1];exact List.getElem?_eq_getElem hnk,ho.1,ho.2,rfl⟩
set_option maxRecDepth 100000 in
set_option maxHeartbeats 8000000 in
theorem written_ok (vf vh vw:Value) (f h:List Ent) (l:List Wr) (w:World) (hx:BatIs w vf vh vw f h l) (hg:errT w) (hr:rightB f h l) :
   Calls Tryz.prog 59 #[.agg #[vf,vh,vw]] w (WrtnIs w (bodyF f h l)):=by
 have h0:(batF f h l).1=0:=hr
 have hb:=rightB_iff.1 hr
 obtain ⟨⟨g1,g2,g3⟩,g4,g5,g6⟩:=hb
 obtain ⟨t1,t2⟩:=tab_small hr
 have hrow:=right_okRow hr
 have hkk:∀ s∈keysW l,s.size≤140737488351232:=fun s hs=>by
   obtain ⟨x,hx,rfl⟩:=List.mem_map.1 hs
   have:=wE_facts (g5 x hx).1
   omega
 have HKK:=Lib.hid hkk
 obtain ⟨T1,hT1⟩:∃ T1:ByteArray,vwriteL f=T1.data.toList:=⟨⟨(vwriteL f).toArray⟩,rfl⟩
 obtain ⟨T2,hT2⟩:∃ T2:ByteArray,vwriteL h=T2.data.toList:=⟨⟨(vwriteL h).toArray⟩,rfl⟩
 have s1:T1.size≤500:=by rw [size_data,←hT1];exact (vwrite_len g1).1
 have s2:T2.size≤500:=by rw [size_data,←hT2];exact (vwrite_len g2).1
 obtain ⟨T,hT⟩:∃ T,tabK [] (keysW l)=T:=⟨_,rfl⟩
 obtain ⟨N,hN⟩:∃ N,atK [] (keysW l)=N:=⟨_,rfl⟩
 obtain ⟨L,hL⟩:∃ L,bodyL f h l=L:=⟨_,rfl⟩
 have HL:Hid (T1.data.toList ++ T2.data.toList ++ putL T.length ++ textsB T ++ putL l.length ++ rowB h 0 l N=L):=Lib.hid (show _=_ by rw [←hL,←hT,←hN,←hT1,←hT2];rfl)
 rw [hT] at t1 t2
 rw [hT,hN] at hrow
 have hrl:=rowB_len (by have:=g2.1;omega) (by omega) l 0 N (Int.le_refl _) hrow
 have htl:=textsB_len t1
 have hLL:L.length≤40000:=by
   rw [←HL.out]
   have:=putL_le10 (n:=T.length) (by omega)
   have:=putL_le10 (n:=l.length) (by omega)
   simp only [List.length_append,←size_data]
   omega
 have hLP:L≠[]:=by
   rw [←HL.out]
   have h1:=putL_pos l.length
   intro hh
   have h2:=congrArg List.length hh
   simp only [List.length_append,List.length_nil] at h2
   omega
 have HTK:=Lib.hid hT
 have HNK:=Lib.hid hN
 have HLB:=Lib.hid hL
 have HT1:=Lib.hid hT1
 have HT2:=Lib.hid hT2
 have HR:=Lib.hid hr
 have HG1:=Lib.hid g1
 have HG2:=Lib.hid g2
 have HTS:=Lib.hid t1
 have HROW:=Lib.hid hrow
 have HLL:=Lib.hid hLL
 have HLP:=Lib.hid hLP
 have hbf:=batF_place h0
 have HBF:=Lib.hid hbf
 clear g1 g2 g3 g5 g6 t1 hrow hkk hT1 hT2 hT hN hL hrl htl hLL hLP hbf hr
 obtain ⟨W0,hW0⟩:∃ W0,w.alloc (.cells #[vf,vh,vw] 25)=W0:=⟨_,rfl⟩
 have hb0:Below w.heap.size w W0:=by rw [←hW0];exact (Below.refl _ _).alloc (Nat.le_refl _) _
 have hz0:w.heap.size < W0.heap.size:=by rw [←hW0];simp
 have HX:Hid (BatIs W0 vf vh vw f h l):=Lib.hid (by rw [←hW0];exact hx.alloc _)
 have HG:Hid (errT W0):=Lib.hid (by rw [←hW0];exact hg.alloc _)
 have hc:=batAt_new w vf vh vw 25
 rw [hW0] at hc
 have HC:=Lib.hid hc
 have HZ0:=Lib.hid hz0
 obtain ⟨af,cf,rfl,_⟩:=hx.1.form
 obtain ⟨ah,ch,rfl,_⟩:=hx.2.1.form
 obtain ⟨aw,cw,rfl,_⟩:=hx.2.2.1.form
 obtain ⟨n,hn⟩:∃ n,n=l.length:=⟨_,rfl⟩
 obtain ⟨nf,hnf⟩:∃ n,n=f.length:=⟨_,rfl⟩
 obtain ⟨nh,hnh⟩:∃ n,n=h.length:=⟨_,rfl⟩
 rw [←hn,←hnf,←hnh] at hW0 HX HC ⊢
 rw [←hn] at g4 HL
 have HNL:=Lib.hid hn
 have HNF:=Lib.hid hnf
 have HNH:=Lib.hid hnh
 have HB0:=Lib.hid hb0
 clear hx hg hb0 h0 hc hz0 hn hnf hnh
 obtain ⟨c0,c1,c2⟩:=HC.out
 go_enter Tryz.func59,Tryz.ntmps59
 go_wp2_with fail
 refine (brightB_as2 _ _ _ f h l 0 (-1) _ HX.out HG.out HBF.out).mono ?_
 rintro r w1 ⟨err,rfl,hat,hb1⟩
 obtain rfl:=hat.nil rfl
 have HX1:=Lib.hid (HX.out.below hb1)
 have HB1:Hid (Below w.heap.size w w1):=HB0.out.trans (hb1.mono HB0.out.size)
 have HC1:=Lib.hid (HC.out.below hb1 HZ0.out)
 have HZ1:Hid (w.heap.size < w1.heap.size):=Lib.hid (Nat.lt_of_lt_of_le HZ0.out hb1.size)
 clear hat hb1 c0 c1 c2 hW0 HX HC HZ0 HB0 HG
 go_wp2_with fail
 refine (bthrow_nil _).mono ?_
 rintro r w' ⟨rfl,rfl⟩
 obtain ⟨wa,hwa⟩:∃ wa,w1.alloc (.cells #[.pointer none,.slice none 0 0] 123)=wa:=⟨_,rfl⟩
 have HS0:Hid (WU w1 (.slice none 0 0) (.slice none 0 0) [] [] [] wa):=Lib.hid (by rw [←hwa];exact ⟨wbld_new w1 _ (Nat.le_refl _),(Below.refl _ _).alloc (Nat.le_refl _) _,ownsS_nil _ _,ownsN_nil _ _⟩)
 have HXW:Hid (∀ w',Below w1.heap.size w1 w'→BatIs w' (.slice af nf cf) (.slice ah nh ch) (.slice aw n cw) f h l):=Lib.hid (fun w' hb=>HX1.out.below hb)
 have HCW:Hid (∀ w',Below w1.heap.size w1 w'→batAt w' w.heap.size (.slice af nf cf) (.slice ah nh ch) (.slice aw n cw)):=Lib.hid (fun w' hb=>HC1.out.below hb HZ1.out)
 clear HC1
 have HP0:Hid (T1.data.toList ++ (T2.data.toList ++ (putL T.length ++ (textsB T ++ (putL n ++ rowB h 0 l N))))=L):=Lib.hid (by rw [←HL.out];simp)
 obtain ⟨c0,c1,c2⟩:=HCW.out _ HS0.out.2.1
 go_wp2_with fail
 refine (bvwrite _ f T1 wa (HXW.out _ HS0.out.2.1).1 (by have:=HNF.out;have:=HG1.out.1;omega) HG1.out HT1.out).mono ?_
 rintro r w2 ⟨rfl,hb2⟩
 have HS1:=Lib.hid (HS0.out.calls hb2)
 clear hb2 c0 c1 c2 HS0 hwa
 go_wp2_with fail
 refine (wtext_any w1.heap.size w1.heap.size [] T1 w2 HS1.out.1 (by simp) (by omega) (Nat.le_of_lt HS1.out.lt)).mono ?_
 rintro r w3 ⟨rfl,hbl,hb3,hn3⟩
 rw [List.nil_append] at hbl
 have HS2:=Lib.hid (HS1.out.put hbl hb3 hn3)
 obtain ⟨c0,c1,c2⟩:=HCW.out _ HS2.out.2.1
 clear hbl hb3 hn3 HS1
 go_wp2_with fail
 refine (bvwrite _ h T2 w3 (HXW.out _ HS2.out.2.1).2.1 (by have:=HNH.out;have:=HG2.out.1;omega) HG2.out HT2.out).mono ?_
 rintro r w4 ⟨rfl,hb4⟩
 have HS3:=Lib.hid (HS2.out.calls hb4)
 clear hb4 c0 c1 c2 HS2
 go_wp2_with fail
 refine (wtext_any w1.heap.size w1.heap.size T1.data.toList T2 w4 HS3.out.1 (pre_le HP0.out HLL.out) (by omega) (Nat.le_of_lt HS3.out.lt)).mono ?_
 rintro r w5 ⟨rfl,hbl,hb5,hn5⟩
 obtain ⟨p1,hp1⟩:∃ p,T1.data.toList ++ T2.data.toList=p:=⟨_,rfl⟩
 rw [hp1] at hbl
 have HP1:Hid (p1 ++ (putL T.length ++ (textsB T ++ (putL n ++ rowB h 0 l N)))=L):=Lib.hid (by rw [←HP0.out,←hp1];simp)
 have HS4:=Lib.hid (HS3.out.put hbl hb5 hn5)
 obtain ⟨c0,c1,c2⟩:=HCW.out _ HS4.out.2.1
 clear hbl hb5 hn5 HS3 hp1
 go_wp2_with fail
 refine (keysOf_any _ l w5 (HXW.out _ HS4.out.2.1).2.2.1 (by have:=HNL.out;omega)).mono ?_
 rintro r w6 ⟨u,rfl,hou,hb6⟩
 have HS5:=Lib.hid (HS4.out.calls hb6)
 have HU:=Lib.hid hou
 clear hb6 hou c0 c1 c2 HS4
 go_wp2_with fail
 refine (ktab_any u (keysW l) w6 HU.out.isTexts (by have:=HNL.out;unfold keysW;rw [List.length_map];omega) HKK.out).mono ?_
 rintro r w7 ⟨vt,vn,rfl,ho1,ho2,hb7⟩
 rw [HTK.out] at ho1
 rw [HNK.out] at ho2
 have HS6:Hid (WU w1 vt vn T N p1 w7):=Lib.hid ⟨HS5.out.1.below hb7,HS5.out.2.1.trans (hb7.mono HS5.out.2.1.size),ho1.mono (by have:=HS5.out.lt;omega),ho2.mono (by have:=HS5.out.lt;omega)⟩
 obtain ⟨m,hm⟩:∃ m,m=T.length:=⟨_,rfl⟩
 obtain ⟨at_,ct,rfl,_,_⟩:=ho1.isTexts
 obtain ⟨an,cn,rfl,_,_⟩:=ho2.isNums
 have hNl:(N.map Int.ofNat).length=n:=by rw [List.length_map,okRow_len _ _ _ HROW.out];exact HNL.out.symm
 rw [hNl] at HS6 ⊢
 rw [←hm] at HS6 HP1 t2 ⊢
 have HM:=Lib.hid hm
 clear hb7 ho1 ho2 HS5 HU hm hNl
 go_wp2_with fail
 refine (wnum2_any w1.heap.size w1.heap.size m p1 w7 HS6.out.1 (by omega) (pre_le HP1.out HLL.out) (Nat.le_of_lt HS6.out.lt)).mono ?_
 rintro r w8 ⟨rfl,hbl,hb8,hn8⟩
 obtain ⟨p2,hp2⟩:∃ p,p1 ++ putL m=p:=⟨_,rfl⟩
 rw [hp2] at hbl
 have HP2:Hid (p2 ++ (textsB T ++ (putL n ++ rowB h 0 l N))=L):=Lib.hid (by rw [←HP1.out,←hp2];simp)
 have HS7:=Lib.hid (HS6.out.put hbl hb8 hn8)
 clear hbl hb8 hn8 HS6 hp2
 go_wp2
 go_loopw [38] (fun i wr=>∃ (k:Nat) (pre:List UInt8),k≤m∧i=.int .i64 k∧pre ++ (textsB (T.drop k) ++ (putL n ++ rowB h 0 l N))=L∧WU w1 (.slice at_ m ct) (.slice an n cn) T N pre wr) (fun i _=>m - (intOf i).toNat)
 case atStart=>exact ⟨0,p2,Nat.zero_le _,rfl,by rw [List.drop_zero];exact HP2.out,HS7.out⟩
 case round =>
   obtain ⟨k,pre,hk,rfl,hpre,hws⟩:=hrel
   have HS:=Lib.hid hws
   have HP:=Lib.hid hpre
   clear hpre hws
   by_cases hlt:k < m
   · obtain ⟨s, hs⟩ : ∃ s, T[k]? = some s := ⟨T[k]'(by have := HM.out; omega), List.getElem?_eq_getElem _⟩
     obtain ⟨a',c',he,_,hce⟩:=HS.out.2.2.1.isTexts
     obtain ⟨rfl,hmm,rfl⟩:=Value.slice.inj he
     clear hmm
     obtain ⟨b1,o1,rfl,hb1,q0⟩:=hce k s hs
     have hsz:=HTS.out s (List.mem_of_getElem? hs)
     obtain ⟨S,hS⟩:∃ S,spanB s=S:=⟨_,rfl⟩
     have hSs:S.size≤60:=by rw [←hS,spanB_size];have:=putL_le10 (n:=s.size) (by omega);omega
     have HPS:Hid (pre ++ (spanL s.data.toList ++ (textsB (T.drop (k + 1)) ++ (putL n ++ rowB h 0 l N)))=L):=Lib.hid (by rw [←HP.out];have:=texts_step hs [];rw [List.nil_append,List.nil_append] at this;rw [this];simp)
     have HSD:Hid (spanL s.data.toList=S.data.toList):=Lib.hid (by rw [←hS,spanB_data])
     have HSS:=Lib.hid hS
     clear he hce hs hS
     go_wp2_with fail
     refine (sput_ok s wr (by omega)).mono ?_
     rintro r w9 ⟨rfl,hb9⟩
     rw [HSS.out]
     have HSa:=Lib.hid (HS.out.calls hb9)
     clear hb9 q0 HS
     go_wp2_with fail
     refine (wtext_any w1.heap.size w1.heap.size pre S w9 HSa.out.1 (pre_le HP.out HLL.out) (by omega) (Nat.le_of_lt HSa.out.lt)).mono ?_
     rintro r w10 ⟨rfl,hbl,hb10,hn10⟩
     obtain ⟨p3,hp3⟩:∃ p,pre ++ S.data.toList=p:=⟨_,rfl⟩
     rw [hp3] at hbl
     have HP3:Hid (p3 ++ (textsB (T.drop (k + 1)) ++ (putL n ++ rowB h 0 l N))=L):=Lib.hid (by rw [←HPS.out,←hp3,HSD.out];simp)
     have HSb:=Lib.hid (HSa.out.put hbl hb10 hn10)
     clear hbl hb10 hn10 HSa hp3
     go_wp2
     go_roundw
     case rel=>exact ⟨k + 1,p3,by omega,by go_num,HP3.out,HSb.out⟩
     case measure=>simp [intOf];omega
   · have HP4:Hid (pre ++ (putL n ++ rowB h 0 l N)=L):=Lib.hid (by rw [←HP.out,List.drop_of_length_le (by have:=HM.out;omega)];simp [textsB])
     obtain ⟨c0,c1,c2⟩:=HCW.out _ HS.out.2.1
     clear HP
     go_wp2_with fail
     refine (wnum2_any w1.heap.size w1.heap.size n pre wr HS.out.1 (by omega) (pre_le HP4.out HLL.out) (Nat.le_of_lt HS.out.lt)).mono ?_
     rintro r w9 ⟨rfl,hbl,hb9,hn9⟩
     obtain ⟨p5,hp5⟩:∃ p,pre ++ putL n=p:=⟨_,rfl⟩
     rw [hp5] at hbl
     have HP5:Hid (p5 ++ rowB h 0 l N=L):=Lib.hid (by rw [←HP4.out,←hp5];simp)
     have HSb:=Lib.hid (HS.out.put hbl hb9 hn9)
     obtain ⟨c0,c1,c2⟩:=HCW.out _ HSb.out.2.1
     clear hbl hb9 hn9 HS hp5 HP4
     have HLF:=Lib.hid (HX1.out.2.2.1.form)
     go_wp2
     go_loopw [8,55] (fun a i wr=>∃ (k:Nat) (A:Int) (pre:List UInt8),k≤n∧i=.int .i64 k∧a=.int .i64 A∧0≤A∧okRow h T A (l.drop k) (N.drop k)∧pre ++ rowB h A (l.drop k) (N.drop k)=L∧WU w1 (.slice at_ m ct) (.slice an n cn) T N pre wr) (fun _ i _=>n - (intOf i).toNat)
     case atStart=>exact ⟨0,0,p5,Nat.zero_le _,rfl,rfl,Int.le_refl _,by rw [List.drop_zero,List.drop_zero];exact HROW.out,by rw [List.drop_zero,List.drop_zero];exact HP5.out,HSb.out⟩
     case round =>
       obtain ⟨j,A,pre,hj,rfl,rfl,hA0,hro,hpre,hws⟩:=hrel
       have HS:=Lib.hid hws
       have HP:=Lib.hid hpre
       have HRO:=Lib.hid hro
       clear hpre hws hro
       by_cases hlj:j < n
       · obtain ⟨x, hx⟩ : ∃ x, l[j]? = some x := ⟨l[j]'(by have := HNL.out; omega), List.getElem?_eq_getElem _⟩
         obtain ⟨nn,hnn,⟨hw,hAx,hpl,hkey⟩,hro2,hrow2⟩:=row_step hx HRO.out
         have hf:=wE_facts hw
         have hnnT:nn < T.length:=(List.getElem?_eq_some_iff.1 hkey).1
         obtain ⟨a3,c3,he,hfo⟩:=HLF.out
         obtain ⟨rfl,hmm,rfl⟩:=Value.slice.inj he
         clear hmm he
         obtain ⟨b1,o1,rfl,hb1,p0,p1,p2,p3,p4,p5⟩:=hfo j x hx
         have q0:=(HS.out.2.1.cell (p:=⟨b1,o1 + j * 6,none⟩) hb1).trans p0
         have q1:=(HS.out.2.1.cell (p:=⟨b1,o1 + j * 6 + 1,none⟩) hb1).trans p1
         have q2:=(HS.out.2.1.cell (p:=⟨b1,o1 + j * 6 + 2,none⟩) hb1).trans p2
         have q3:=(HS.out.2.1.cell (p:=⟨b1,o1 + j * 6 + 3,none⟩) hb1).trans p3
         have q4:=(HS.out.2.1.cell (p:=⟨b1,o1 + j * 6 + 4,none⟩) hb1).trans p4
         have q5:=(HS.out.2.1.cell (p:=⟨b1,o1 + j * 6 + 5,none⟩) hb1).trans p5
         obtain ⟨pp,hpp⟩:∃ pp,placeF h x.rep=pp:=⟨_,rfl⟩
         obtain ⟨d,hd⟩:∃ d,(x.time - A).toNat=d:=⟨_,rfl⟩
         obtain ⟨TB,hTB⟩:∃ TB,tailB x.kind x.value x.n=TB:=⟨_,rfl⟩
         obtain ⟨K,hK⟩:=Int.eq_ofNat_of_zero_le (show 0≤x.kind by omega)
         obtain ⟨c,hc⟩:∃ c,UInt8.ofNat K=c:=⟨_,rfl⟩
         have hct:c.toNat=K:=by rw [←hc];exact toNat_ofNat_lt (by omega)
         have hTBs:TB.size≤320:=by rw [←hTB,size_data];exact hf.2.2.2.2.2.2.2.2.1
         have HONE:Hid (pre ++ ([c] ++ (putL d ++ (putL pp ++ (putL nn ++ (TB.data.toList ++ rowB h x.time (l.drop (j + 1)) (N.drop (j + 1)))))))=L):=Lib.hid (by
           rw [←HP.out,hrow2]
           unfold oneB tailL
           rw [hpp,hd,hTB,hK]
           rw [show ((K:Int)).toNat=K from rfl,hc]
           simp)
         have HRO2:=Lib.hid hro2
         have HW:=Lib.hid hw
         have HPP:=Lib.hid hpp
         have HTB:=Lib.hid hTB
         have kw:IntKind.u8.wrap (K:Int)=(c.toNat:Int):=by rw [hct];exact IntWalk.u8_in _ (by omega)
         have kd:IntKind.i64.wrap (x.time - A)=(d:Int):=by rw [show (d:Int)=x.time - A by omega];exact IntWalk.i64_in _ (by omega)
         have hd40:d≤1099511627776:=by omega
         have hpn:pp < nh:=by rw [HNH.out,←hpp];exact hpl
         have hnh16:nh≤16:=by rw [HNH.out];exact HG2.out.1
         have hnn60:nn≤60:=by have:=HM.out;omega
         have ht0:0≤x.time:=by omega
         have hVN:∃ g,an=some ⟨g,0,none⟩∧g < wr.heap.size∧wr.heap[g]? ≠ none∧∀ w',ownsN w' (w1.heap.size + 1) (.slice an n cn) N→w'.cell? ⟨g,j,none⟩=some (.int .i64 (nn:Int)):=by
           rcases HS.out.2.2.2.forms with ⟨hv,hnil⟩ | ⟨g,cap,hv,hbg,hgl,hcells⟩
           · rw [hnil] at hnn;simp at hnn
           · obtain ⟨rfl,_,_⟩:=Value.slice.inj hv
             refine ⟨g,rfl,hgl,by rw [Array.getElem?_eq_getElem hgl];simp,fun w' ho=>?_⟩
             rcases ho.forms with ⟨hv2,hnil⟩ | ⟨g2,cap2,hv2,_,_,hcells2⟩
             · rw [hnil] at hnn;simp at hnn
             · obtain ⟨hg2,_,_⟩:=Value.slice.inj hv2
               have hg3:g=g2:=by simpa using hg2
               subst hg3
               rw [hcells2 j (List.getElem?_eq_some_iff.1 hnn).1,List.getD_eq_getElem?_getD,hnn];rfl
         obtain ⟨g,rfl,_,_,hgc⟩:=hVN
         have HGC:=Lib.hid hgc
         have HTM:Hid (0≤x.time):=Lib.hid ht0
         obtain ⟨Ti,R,Ki,key,val,Nn⟩:=x
         dsimp only at q0 q1 q2 q3 q4 q5 HONE HRO2 HPP HTB kd hK HTM
         subst hK
         obtain ⟨c0,c1,c2⟩:=HCW.out _ HS.out.2.1
         have HQ0:Hid (WQ w1 (.slice at_ m ct) (.slice (some ⟨g,0,none⟩) n cn) T N wr.heap.size ⟨Ti,R,(K:Int),key,val,Nn⟩ pre (wr.alloc (.cells #[.int .i64 Ti,.int .i64 R,.int .i64 (K:Int),.string key,.string val,.int .i64 Nn] 59))):=Lib.hid ⟨HS.out.alloc _,heap_alloc_new wr _,HS.out.lt⟩
         clear p0 p1 p2 p3 p4 p5 hfo hx hnn hkey hro2 hrow2 hw hf hAx hpl hpp hd hTB hc hct hgc ht0 HRO hnnT
         go_wp2_with fail
         refine (wbld_byte w1.heap.size w1.heap.size pre c _ HQ0.out.1.1 (by have:=pre_le HONE.out HLL.out;omega) (Nat.le_of_lt HQ0.out.1.lt)).mono ?_
         rintro r w11 ⟨rfl,hbl,hb,hn⟩
         obtain ⟨s1_,hp⟩:∃ p,pre ++ [c]=p:=⟨_,rfl⟩
         rw [hp] at hbl
         have HE1:Hid (s1_ ++ (putL d ++ (putL pp ++ (putL nn ++ (TB.data.toList ++ (rowB h Ti (l.drop (j + 1)) (N.drop (j + 1)))))))=L):=Lib.hid (by rw [←HONE.out,←hp];simp)
         have HQ1:=Lib.hid (HQ0.out.put hbl hb hn)
         obtain ⟨c0,c1,c2⟩:=HCW.out _ HQ1.out.1.2.1
         obtain ⟨e0,e1,e2,e3,e4,e5⟩:=HQ1.out.cells
         clear hbl hb hn hp HQ0 q0 q1 q2 q3 q4 q5
         go_wp2_with fail
         refine (wnum2_any w1.heap.size w1.heap.size d s1_ w11 HQ1.out.1.1 (by omega) (pre_le HE1.out HLL.out) (Nat.le_of_lt HQ1.out.1.lt)).mono ?_
         rintro r w12 ⟨rfl,hbl,hb,hn⟩
         obtain ⟨s2_,hp⟩:∃ p,s1_ ++ putL d=p:=⟨_,rfl⟩
         rw [hp] at hbl
         have HE2:Hid (s2_ ++ (putL pp ++ (putL nn ++ (TB.data.toList ++ (rowB h Ti (l.drop (j + 1)) (N.drop (j + 1))))))=L):=Lib.hid (by rw [←HE1.out,←hp];simp)
         have HQ2:=Lib.hid (HQ1.out.put hbl hb hn)
         obtain ⟨c0,c1,c2⟩:=HCW.out _ HQ2.out.1.2.1
         obtain ⟨e0,e1,e2,e3,e4,e5⟩:=HQ2.out.cells
         clear hbl hb hn hp HQ1
         go_wp2_with fail
         refine (bplace_any _ h R pp w12 (HXW.out _ HQ2.out.1.2.1).2.1 (by have:=HNH.out;omega) HPP.out (by have:=HNH.out;omega)).mono ?_
         rintro r w13 ⟨rfl,hb⟩
         have HQ3:=Lib.hid (HQ2.out.calls hb)
         clear hb HQ2 c0 c1 c2 e0 e1 e2 e3 e4 e5
         go_wp2_with fail
         refine (wnum2_any w1.heap.size w1.heap.size pp s2_ w13 HQ3.out.1.1 (by omega) (pre_le HE2.out HLL.out) (Nat.le_of_lt HQ3.out.1.lt)).mono ?_
         rintro r w14 ⟨rfl,hbl,hb,hn⟩
         obtain ⟨s4_,hp⟩:∃ p,s2_ ++ putL pp=p:=⟨_,rfl⟩
         rw [hp] at hbl
         have HE4:Hid (s4_ ++ (putL nn ++ (TB.data.toList ++ (rowB h Ti (l.drop (j + 1)) (N.drop (j + 1)))))=L):=Lib.hid (by rw [←HE2.out,←hp];simp)
         have HQ4:=Lib.hid (HQ3.out.put hbl hb hn)
         obtain ⟨c0,c1,c2⟩:=HCW.out _ HQ4.out.1.2.1
         obtain ⟨e0,e1,e2,e3,e4,e5⟩:=HQ4.out.cells
         clear hbl hb hn hp HQ3
         have q6:=HGC.out _ HQ4.out.1.2.2.2
         go_wp2_with fail
         refine (wnum2_any w1.heap.size w1.heap.size nn s4_ w14 HQ4.out.1.1 (by omega) (pre_le HE4.out HLL.out) (Nat.le_of_lt HQ4.out.1.lt)).mono ?_
         rintro r w15 ⟨rfl,hbl,hb,hn⟩
         obtain ⟨s5_,hp⟩:∃ p,s4_ ++ putL nn=p:=⟨_,rfl⟩
         rw [hp] at hbl
         have HE5:Hid (s5_ ++ (TB.data.toList ++ (rowB h Ti (l.drop (j + 1)) (N.drop (j + 1))))=L):=Lib.hid (by rw [←HE4.out,←hp];simp)
         have HQ5:=Lib.hid (HQ4.out.put hbl hb hn)
         obtain ⟨c0,c1,c2⟩:=HCW.out _ HQ5.out.1.2.1
         obtain ⟨e0,e1,e2,e3,e4,e5⟩:=HQ5.out.cells
         clear hbl hb hn hp HQ4
         go_wp2_with fail
         refine (btail ⟨Ti,R,(K:Int),key,val,Nn⟩ TB w15 HW.out HTB.out).mono ?_
         rintro r w16 ⟨rfl,hb⟩
         have HQ6:=Lib.hid (HQ5.out.calls hb)
         clear hb HQ5 c0 c1 c2 e0 e1 e2 e3 e4 e5 q6
         go_wp2_with fail
         refine (wtext_any w1.heap.size w1.heap.size s5_ TB w16 HQ6.out.1.1 (pre_le HE5.out HLL.out) (by omega) (Nat.le_of_lt HQ6.out.1.lt)).mono ?_
         rintro r w17 ⟨rfl,hbl,hb,hn⟩
         obtain ⟨s7_,hp⟩:∃ p,s5_ ++ TB.data.toList=p:=⟨_,rfl⟩
         rw [hp] at hbl
         have HE7:Hid (s7_ ++ (rowB h Ti (l.drop (j + 1)) (N.drop (j + 1)))=L):=Lib.hid (by rw [←HE5.out,←hp];simp)
         have HQ7:=Lib.hid (HQ6.out.put hbl hb hn)
         obtain ⟨c0,c1,c2⟩:=HCW.out _ HQ7.out.1.2.1
         obtain ⟨e0,e1,e2,e3,e4,e5⟩:=HQ7.out.cells
         clear hbl hb hn hp HQ6
         go_wp2
         go_roundw
         case rel=>exact ⟨j + 1,Ti,s7_,by omega,by go_num,rfl,HTM.out,HRO2.out,HE7.out,HQ7.out.1⟩
         case measure=>simp [intOf];omega
       · have HPL:Hid (pre=L):=Lib.hid (by rw [←HP.out,List.drop_of_length_le (by have:=HNL.out;omega)];simp [rowB])
         rw [HPL.out] at HS
         obtain ⟨z,hz⟩:∃ z,z=L.length:=⟨_,rfl⟩
         have hz40:z≤40000:=by rw [hz];exact HLL.out
         have HZ:=Lib.hid hz
         have HBF2:Hid (Below w.heap.size w wr):=Lib.hid (HB1.out.trans (HS.out.2.1.mono HB1.out.size))
         by_cases hbig:20000 < z
         · have HF:Hid (bodyF f h l=([],4,-1)):=Lib.hid (bodyF_big (show (batF f h l).1=0 from HR.out) (by rw [HLB.out,←hz];exact hbig))
           have d1:(20000:Int) < (z:Int):=by omega
           clear hz
           go_wp2_with fail
           refine (wbld_len w1.heap.size w1.heap.size L wr HS.out.1).mono ?_
           rintro r w' ⟨rfl,rfl⟩
           rw [←HZ.out]
           go_wp2_with fail
           refine (bthrow_err _ _ _).mono ?_
           rintro r w' ⟨rfl,rfl⟩
           refine And.intro rfl ⟨HBF2.out,.inr ⟨?_,?_,_,_,rfl,?_⟩⟩
           · rw [HF.out];decide
           · rw [HF.out]
           · rw [HF.out];exact .inr ⟨by decide,rfl,rfl⟩
         · have HF:Hid (bodyF f h l=(L,0,-1)):=Lib.hid (by rw [bodyF_ok (show (batF f h l).1=0 from HR.out) (by rw [HLB.out,←hz];exact hbig),HLB.out])
           have d1:(z:Int)≤20000:=by omega
           clear hz
           go_wp2_with fail
           refine (wbld_len w1.heap.size w1.heap.size L wr HS.out.1).mono ?_
           rintro r w' ⟨rfl,rfl⟩
           rw [←HZ.out]
           go_wp2_with fail
           refine (wbld_string w1.heap.size w1.heap.size L wr HS.out.1 HLP.out).mono ?_
           rintro r w10 ⟨rfl,hb10⟩
           have HB10:Hid (Below w.heap.size w w10):=Lib.hid (HBF2.out.trans (hb10.mono HB1.out.size))
           clear hb10
           go_wp2
           go_ret
           refine ⟨HB10.out,.inl ⟨?_,?_⟩⟩
           · rw [HF.out]
           · rw [HF.out];rfl
end Go.Proofs.YtjkbmfpomgcblaaGreatDoor
namespace Go.Proofs.YtjkbmfpomgcblaaGreatDoor
open Go.RowKit
theorem okV_sorted {l:List Ent}:∀ {last:Int} {i j:Nat} {a b:Ent},okV last l→i < j→l[i]? = some a→l[j]? = some b→a.rep < b.rep:=by
 induction l with
 | nil=>intro last i j a b _ _ h _;simp at h
 | cons e r ih =>
   intro last i j a b ho hij hi hj
   cases j with
   | zero=>omega
   | succ j =>
     rw [List.getElem?_cons_succ] at hj
     cases i with
     | zero =>
       simp only [List.getElem?_cons_zero,Option.some.injEq] at hi
       subst hi
       exact (okV_mem ho.2 b (List.mem_of_getElem? hj)).2.2.2.2
     | succ i =>
       rw [List.getElem?_cons_succ] at hi
       exact ih ho.2 (by omega) hi hj
theorem place_cut {h:List Ent} {last r:Int} {k:Nat} {x:Ent} (ho:okV last h) (hp:placeF h r < h.length) (hk:h[k]? = some x):decide (x.rep ≥ r)=decide (placeF h r≤k):=by
 obtain ⟨e,he,hr⟩:=place_has hp
 rcases Nat.lt_trichotomy k (placeF h r) with h1 | h1 | h1
 · have:=okV_sorted ho h1 hk he
   rw [decide_eq_false (by omega),decide_eq_false (by omega)]
 · rw [h1] at hk
   obtain rfl:=Option.some.inj (hk.symm.trans he)
   rw [decide_eq_true (by omega),decide_eq_true (by omega)]
 · have:=okV_sorted ho h1 he hk
   rw [decide_eq_true (by omega),decide_eq_true (by omega)]
def srchAt (w:World) (B X:Nat) (v:Value) (r:Int):Prop:=w.cell? ⟨B,1,none⟩=some v∧w.cell? ⟨X,1,none⟩=some (.int .i64 r)
set_option maxRecDepth 100000 in
theorem body1_any (k B X:Nat) (a:Option Addr) (n c:Nat) (h:List Ent) (r:Int) (q:Bool) (x:Ent) (w:World) (hs:srchAt w B X (.slice a n c) r) (hv:IsEnts w (.slice a n c) h) (hn:n=h.length) (hk:h[k]? = some x) (hq:decide (x.rep ≥ r)=q) :
   Calls Tryz.prog 124 #[.int .i64 k,.pointer (some ⟨B,0,none⟩),.pointer (some ⟨X,0,none⟩)] w fun e w'=>e=.returned (.bool q)∧∃ m,w'=w.drewN m:=by
 obtain ⟨a1,c1,e1,f1⟩:=hv.form
 injection e1 with e1 _ e3
 subst e1 e3
 obtain ⟨b1,o1,rfl,hb1,p0,p1⟩:=f1 k x hk
 obtain ⟨s0,s1⟩:=hs
 have hk1:(k:Int) < (n:Int):=by have:=(List.getElem?_eq_some_iff.1 hk).1;omega
 have hk0:(0:Int)≤(k:Int):=by omega
 clear f1 hv hk hn
 go_enter Tryz.func124,Tryz.ntmps124
 go_wp2
 go_quiet (fail)
 go_wp2
 go_ret
 exact ⟨by first | rfl | (rw [hq]),_,rfl⟩
set_option maxRecDepth 100000 in
set_option maxHeartbeats 2000000 in
theorem search_any (B X:Nat) (a:Option Addr) (n c:Nat) (h:List Ent) (last r:Int) (p:Nat) (w:World) (hs:srchAt w B X (.slice a n c) r) (hv:IsEnts w (.slice a n c) h) (hn:n=h.length) (hl:n≤1000) (ho:okV last h) (hp:placeF h r=p) (hpl:p < n) :
   Calls Tryz.prog 123 #[.int .i64 n,.func (.func 124) #[] #[.pointer (some ⟨B,0,none⟩),.pointer (some ⟨X,0,none⟩)]] w fun e w'=>e=.returned (.int .i64 p)∧∃ m,w'=w.drewN m:=by
 have HS:=Lib.hid hs
 have HV:=Lib.hid hv
 have HN:=Lib.hid hn
 have HO:=Lib.hid ho
 have HP:=Lib.hid hp
 clear hs hv hn ho hp
 go_enter Tryz.func123,Tryz.ntmps123
 go_wp2
 go_loopw [5,6] (fun i j wr=>∃ k e:Nat,i=.int .i64 k∧j=.int .i64 e∧k≤p∧p≤e∧e≤n∧∃ m,wr=w.drewN m) (fun i j _=>(intOf j - intOf i).toNat)
 case atStart=>exact ⟨0,n,rfl,rfl,by omega,by omega,by omega,0,rfl⟩
 case round =>
   obtain ⟨k,e,rfl,rfl,h1,h2,h3,m,rfl⟩:=hrel
   by_cases hlt:k < e
   · obtain ⟨d,hd⟩:∃ d,d=(k + e) / 2:=⟨_,rfl⟩
     obtain ⟨x, hx⟩ : ∃ x, h[d]? = some x := ⟨h[d]'(by have := HN.out; omega), List.getElem?_eq_getElem _⟩
     have hc:decide (x.rep ≥ r)=decide (p≤d):=by
       rw [←HP.out]
       exact place_cut HO.out (by rw [HP.out,←HN.out];omega) hx
     have HX:=Lib.hid hx
     have HC:=Lib.hid hc
     clear hx hc
     go_wp2_with fail
     rw [show ((k:Int) + (e:Int)) / 2=(d:Int) by omega]
     have HM:Hid (∀ q,decide (p≤d)=q→Calls Tryz.prog 124 #[.int .i64 d,.pointer (some ⟨B,0,none⟩),.pointer (some ⟨X,0,none⟩)] (w.drewN m) fun e w'=>e=.returned (.bool q)∧∃ m2,w'=(w.drewN m).drewN m2):=Lib.hid (fun q hq=>body1_any d B X a n c h r q x _ HS.out (HV.out.drewN m) HN.out HX.out (HC.out.trans hq))
     by_cases hle:p≤d
     · refine (HM.out true (decide_eq_true hle)).mono ?_
       rintro rr w2 ⟨rfl,m2,rfl⟩
       rw [World.drewN_drewN]
       go_wp2
       go_roundw
       case rel=>exact ⟨k,d,rfl,by go_num,h1,hle,by omega,_,rfl⟩
       case measure=>simp [intOf];omega
     · refine (HM.out false (decide_eq_false hle)).mono ?_
       rintro rr w2 ⟨rfl,m2,rfl⟩
       rw [World.drewN_drewN]
       go_wp2
       go_roundw
       case rel=>exact ⟨d + 1,e,by go_num,rfl,by omega,h2,h3,_,rfl⟩
       case measure=>simp [intOf];omega
   · obtain rfl:k=p:=by omega
     go_wp2
     go_ret
     exact ⟨rfl,_,rfl⟩
end Go.Proofs.YtjkbmfpomgcblaaGreatDoor
