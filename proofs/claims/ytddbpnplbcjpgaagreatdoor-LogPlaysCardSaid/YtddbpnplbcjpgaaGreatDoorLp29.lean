import Derived.Test.YtddbpnplbcjpgaaGreatDoorLp28
namespace Go.Proofs.YtddbpnplbcjpgaaGreatDoor
open Go.RowKit
structure CelW (w0 w:World) (C H:Nat) (k:ByteArray) (c:Cel) (v:Value):Prop where
 row:w.heap[C]? = some (.cells #[.string k,.bool c.has,.string c.text,.int .i64 c.sum,v] 105 (0,0))
 own:ownsS w H v c.list
 ne:v.ownBlock≠some C
 nil':c.list=[]→v=.slice none 0 0
 gr:w0.grownBy w (some C)
 hC:C < w0.heap.size
 hH:H≤C
 len:c.list.length≤1000
theorem CelW.to {w0 w w':World} {C H:Nat} {k:ByteArray} {c c':Cel} {v v':Value} (h:CelW w0 w C H k c v) (hg:w.grownBy w' (some C)) (row':w'.heap[C]? = some (.cells #[.string k,.bool c'.has,.string c'.text,.int .i64 c'.sum,v'] 105 (0,0)))
   (own':ownsS w' H v' c'.list) (ne':v'.ownBlock≠some C) (nil':c'.list=[]→v'=.slice none 0 0) (len':c'.list.length≤1000):CelW w0 w' C H k c' v' :=
 ⟨row',own',ne',nil',⟨hg.os.trans h.gr.os,hg.tape.trans h.gr.tape,hg.output.trans h.gr.output,Nat.le_trans h.gr.size hg.size,fun i hi hne=>(hg.block i (Nat.lt_of_lt_of_le hi h.gr.size) hne).trans (h.gr.block i hi hne)⟩,h.hC,h.hH,len'⟩
theorem CelW.lt {w0 w:World} {C H:Nat} {k:ByteArray} {c:Cel} {v:Value} (h:CelW w0 w C H k c v):C < w.heap.size:=Nat.lt_of_lt_of_le h.hC h.gr.size
theorem CelW.alloc {w0 w:World} {C H:Nat} {k:ByteArray} {c:Cel} {v:Value} (h:CelW w0 w C H k c v) (o:Obj):CelW w0 (w.alloc o) C H k c v :=
 h.to (grown_alloc (grown_refl w _) o) (((MapKept.heap_alloc w o).2 C h.lt).trans h.row) (h.own.alloc o) h.ne h.nil' h.len
theorem CelW.drew {w0 w:World} {C H:Nat} {k:ByteArray} {c:Cel} {v:Value} (h:CelW w0 w C H k c v):CelW w0 w.drew C H k c v :=
 h.to (grown_drew (grown_refl w _)) h.row h.own.drew h.ne h.nil' h.len
theorem refcells {w:World} {C:Nat} {a b c d e:Value} {T:TypeId} (h:w.heap[C]? = some (.cells #[a,b,c,d,e] T (0,0))) :
   w.cell? ⟨C,0,none⟩=some a∧w.cell? ⟨C,1,none⟩=some b∧w.cell? ⟨C,2,none⟩=some c∧w.cell? ⟨C,3,none⟩=some d∧w.cell? ⟨C,4,none⟩=some e ∧
   w.frozen? ⟨C,0,none⟩=false∧w.frozen? ⟨C,1,none⟩=false∧w.frozen? ⟨C,2,none⟩=false∧w.frozen? ⟨C,3,none⟩=false∧w.frozen? ⟨C,4,none⟩=false:=by
 refine ⟨?_,?_,?_,?_,?_,?_,?_,?_,?_,?_⟩ <;> first | (rw [cell_of_row _ _ _ _ _ _ h];rfl) | simp [World.frozen?,h]
theorem grown_setR {w0 w:World} {C i:Nat} (h:w0.grownBy w (some C)) (u:Value):w0.grownBy (w.setCell ⟨C,i,none⟩ u) (some C) :=
 ⟨h.os,h.tape,h.output,by rw [show (w.setCell ⟨C,i,none⟩ u).heap.size=w.heap.size from by simp];exact h.size,fun k hk hne=>by
   rw [heap_setCell_other _ _ _ _ (fun e=>hne (by rw [e]))];exact h.block k hk hne⟩
theorem CelW.set1 {w0 w w':World} {C H:Nat} {k:ByteArray} {c c':Cel} {v:Value} (h:CelW w0 w C H k c v) (hg:w.grownBy w' (some C)) (row':w'.heap[C]? = some (.cells #[.string k,.bool c'.has,.string c'.text,.int .i64 c'.sum,v] 105 (0,0))) (hl:c'.list=c.list):CelW w0 w' C H k c' v :=
 h.to hg row' (by rw [hl];exact World.ownsRow.kept h.own hg (.inr h.ne)) h.ne (by rw [hl];exact h.nil') (by rw [hl];exact h.len)
theorem CelW.zero {w0 w:World} {C H:Nat} {k:ByteArray} {c:Cel} {v:Value} (h:CelW w0 w C H k c v) :
   CelW w0 (((((w.setCell ⟨C,0,none⟩ (.string k)).setCell ⟨C,1,none⟩ (.bool false)).setCell ⟨C,2,none⟩ (.string ⟨#[]⟩)).setCell ⟨C,3,none⟩ (.int .i64 0)).setCell ⟨C,4,none⟩ (.slice none 0 0)) C H k cel0 (.slice none 0 0):=by
 have r1:=heap_setCell_same _ C 0 _ _ (.string k) h.row
 have r2:=heap_setCell_same _ C 1 _ _ (.bool false) r1
 have r3:=heap_setCell_same _ C 2 _ _ (.string ⟨#[]⟩) r2
 have r4:=heap_setCell_same _ C 3 _ _ (.int .i64 0) r3
 have r5:=heap_setCell_same _ C 4 _ _ (.slice none 0 0) r4
 exact h.to (grown_setR (grown_setR (grown_setR (grown_setR (grown_setR (grown_refl w _) _) _) _) _) _) (by simpa [cel0] using r5) (ownsS_nil _ _) (by simp [Value.ownBlock]) (fun _=>rfl) (by simp [cel0])
theorem CelW.sum {w0 w:World} {C H:Nat} {k:ByteArray} {c:Cel} {v:Value} (h:CelW w0 w C H k c v) (z:Int):CelW w0 (w.setCell ⟨C,3,none⟩ (.int .i64 z)) C H k { c with sum:=z } v :=
 h.set1 (grown_setR (grown_refl w _) _) (by have r:=heap_setCell_same _ C 3 _ _ (.int .i64 z) h.row;simpa using r) rfl
theorem CelW.text {w0 w:World} {C H:Nat} {k:ByteArray} {c:Cel} {v:Value} (h:CelW w0 w C H k c v) (z:ByteArray):CelW w0 ((w.setCell ⟨C,1,none⟩ (.bool true)).setCell ⟨C,2,none⟩ (.string z)) C H k { c with has:=true,text:=z } v :=
 h.set1 (grown_setR (grown_setR (grown_refl w _) _) _) (by
   have r1:=heap_setCell_same _ C 1 _ _ (.bool true) h.row
   have r2:=heap_setCell_same _ C 2 _ _ (.string z) r1
   simpa using r2) rfl
theorem CelW.below {w0 w w':World} {C H:Nat} {k:ByteArray} {c:Cel} {v:Value} (h:CelW w0 w C H k c v) (hb:Below w.heap.size w w'):CelW w0 w' C H k c v :=
 h.to (grown_some (grown_of_below hb) _) ((hb.block C h.lt).trans h.row) (h.own.below hb) h.ne h.nil' h.len
theorem CelW.ins {w0 w:World} {C H B:Nat} {k:ByteArray} {ch:Bool} {ct:ByteArray} {cs:Int} {cl nl:List ByteArray} {v u:Value} (h:CelW w0 w C H k ⟨ch,ct,cs,cl⟩ v) (ho:ownsS w B u nl) (hB:C < B∧H≤C) (hn:nl≠[]) (hl:nl.length≤1000) :
   CelW w0 (w.setCell ⟨C,4,none⟩ u) C H k ⟨ch,ct,cs,nl⟩ u:=by
 have hne:u.ownBlock≠some C:=fun e=>by have:=(ho.lt C e).1;omega
 exact h.to (grown_setR (grown_refl w _) _) (by have r:=heap_setCell_same _ C 4 _ _ u h.row;simpa using r) (ownsS.mono (ho.setC u hne) (by omega)) hne (fun e=>absurd e hn) hl
theorem bne_same (a:ByteArray):(a.toList != a.toList)=false:=by simp
theorem bne_diff {a b:ByteArray} (h:a≠b):(a.toList != b.toList)=true:=by rw [bne,beq_diff h];rfl
theorem refkeys_len {l:List Wr}:(keysS l).length≤l.length:=by
 have h1:=(keysS_nodup l).length_le_of_subset (l₂:=l.map (·.key)) (fun k hk=>by
   obtain ⟨w,hw,rfl⟩:=keysS_mem.1 hk
   exact List.mem_map_of_mem hw)
 simpa using h1
theorem filt_yes {α:Type} {p:α→Bool} {L:List α} {q:Nat} {x:α} (hx:L[q]? = some x) (h:p x=true):(L.take (q + 1)).filter p=(L.take q).filter p ++ [x]:=by
 rw [List.take_add_one,hx];simp [h]
theorem filt_no {α:Type} {p:α→Bool} {L:List α} {q:Nat} {x:α} (hx:L[q]? = some x) (h:p x=false):(L.take (q + 1)).filter p=(L.take q).filter p:=by
 rw [List.take_add_one,hx];simp [h]
set_option maxRecDepth 100000 in
set_option maxHeartbeats 8000000 in
theorem rcells_any (v:Value) (l:List Wr) (w:World) (h:IsWrs w v l) (hr:∀ x∈l,wrF x=0) (hl:l.length≤1000) :
   Calls Tryz.prog 22 #[v] w fun e w'=>∃ u,e=.returned u∧IsCells w' u (cellsF l)∧Below w.heap.size w w':=by
 obtain ⟨a,c,rfl,hf⟩:=h.form
 have HF:=Lib.hid hf
 have HR:=Lib.hid hr
 obtain ⟨n,hn⟩:∃ n,n=l.length:=⟨_,rfl⟩
 rw [←hn] at hl ⊢
 have HN:=Lib.hid hn
 clear h hf hr hn
 go_enter Tryz.func22,Tryz.ntmps22
 go_wp2
 go_loopw [3,17] (fun u i wr=>∃ k:Nat,k≤n∧i=.int .i64 k∧ownsS wr w.heap.size u ((l.take k).map (·.key))∧Below w.heap.size w wr) (fun _ i _=>n - (intOf i).toNat)
 case atStart=>exact ⟨0,by omega,rfl,ownsS_nil _ _,Below.refl _ _⟩
 case round =>
   obtain ⟨k,hk,rfl,ho,hb⟩:=hrel
   have HO:=Lib.hid ho
   have HB:=Lib.hid hb
   have HSR:=Lib.hid hb.size
   clear ho hb
   by_cases hlt:k < n
   · have b1:decide ((k:Int) < (n:Int))=true:=by simpa using hlt
     obtain ⟨x, hx⟩ : ∃ x, l[k]? = some x := ⟨l[k]'(by rw [← HN.out]; exact hlt), List.getElem?_eq_getElem _⟩
     obtain ⟨b,off,rfl,hbl,c0,c1,c2,c3,c4,c5⟩:=HF.out k x hx
     have HX:=Lib.hid hx
     obtain ⟨T,Re,K,key,val,N⟩:=x
     simp only at c0 c1 c2 c3 c4 c5
     have up:∀ j u,w.cell? ⟨b,j,none⟩=some u→wr.cell? ⟨b,j,none⟩=some u:=fun j u hu=>(HB.out.cell (p:=⟨b,j,none⟩) hbl).trans hu
     have e0:=up _ _ c0
     have e1:=up _ _ c1
     have e2:=up _ _ c2
     have e3:=up _ _ c3
     have e4:=up _ _ c4
     have e5:=up _ _ c5
     clear hx c0 c1 c2 c3 c4 c5 up hbl
     have HLEN:Hid (((l.take k).map (·.key)).length + 1≤8796093022208):=Lib.hid (by rw [List.length_map,List.length_take];omega)
     go_wp2_with (at_builtin;refine wpList_append_str rfl _ _ rfl w.heap.size _ ((l.take k).map (·.key)) rfl ((HO.out.alloc _).alloc _) ⟨wr.heap.size + 1,0,none⟩ 1 rfl key (by simp [Addr.add]) HLEN.out (by have:=HSR.out;simp;omega) ?_;intro g cap w5 ho5 hg5;have HO5:=Lib.hid ho5;have HG5:=Lib.hid hg5;clear ho5 hg5)
     have HBZ:Hid (Below w.heap.size w w5):=Lib.hid (below_of_grown ((HB.out.alloc HSR.out _).alloc (by have:=HSR.out;simp;omega) _) HG5.out (by have:=HSR.out;simp;omega) (fun g e=>(HO.out.lt g e).1))
     go_wp2
     go_roundw
     · refine ⟨k + 1,by omega,by simp,?_,HBZ.out⟩
       have h9:=HO5.out
       rw [rtake_snoc HX.out,List.map_append]
       have e9:((l.take k).map (·.key)).length=min k l.length:=by simp
       rw [e9] at h9
       exact h9
     · simp [intOf];omega
   · have b1:decide ((k:Int) < (n:Int))=false:=by simp;omega
     obtain rfl:k=n:=by omega
     obtain ⟨wk,rfl⟩:∃ wk,wk=wr:=⟨_,rfl⟩
     have hfull:l.take k=l:=List.take_of_length_le (by rw [HN.out];exact Nat.le_refl _)
     rw [hfull] at HO
     obtain ⟨a3,c3,rfl⟩:=HO.out.slice
     have HIT:Hid (IsTexts wk (.slice a3 l.length c3) (l.map (·.key))):=Lib.hid (by have h:=HO.out.isTexts;rwa [List.length_map] at h)
     clear hfull
     go_wp2_with fail
     refine (rtab_any _ (l.map (·.key)) wk HIT.out (by rw [List.length_map,←HN.out];omega)).mono ?_
     rintro r w6 ⟨v1,v2,rfl,ho6,_,hb6⟩
     have HB6:Hid (Below w.heap.size w w6):=Lib.hid (HB.out.trans (hb6.mono HSR.out))
     have hm6:(tabK [] (l.map (·.key))).length≤1000:=by rw [←(keysS_perm l).length_eq];have:=refkeys_len (l:=l);have:=HN.out;omega
     have HO6:Hid (ownsS w6 wk.heap.size v1 (tabK [] (l.map (·.key)))):=Lib.hid ho6
     have HM6:=Lib.hid hm6
     clear ho6 hb6 hm6
     go_wp2_with fail
     refine (sorts_any _ v1 (tabK [] (l.map (·.key))) w6 HO6.out (by have:=HM6.out;omega)).mono ?_
     rintro r wt ⟨rfl,hot,hgt⟩
     have HBT:Hid (Below w.heap.size w wt):=Lib.hid (below_of_grown HB6.out hgt HB6.out.size (fun g e=>Nat.le_trans HSR.out (HO6.out.lt g e).1))
     have hot2:IsTexts wt v1 (keysS l):=hot.isTexts
     obtain ⟨a1,c1',rfl,hmc,hft⟩:=hot2
     obtain ⟨m,hm⟩:∃ m,m=(keysS l).length:=⟨_,rfl⟩
     rw [←hm]
     have HFT:=Lib.hid hft
     have HMM:Hid (m=(keysS l).length∧m≤1000):=Lib.hid ⟨hm,by rw [hm];have:=refkeys_len (l:=l);have:=HN.out;omega⟩
     have hm1000:=HMM.out.2
     clear hot hgt hmc hft hm HO HB HSR HO6 HB6
     go_wp2_with fail
     go_loopw [8,36] (fun u i wx=>∃ (q:Nat) (zs:List CV),q≤m∧i=.int .i64 q∧ownsC wx wt.heap.size u zs∧RowsAre wx wt.heap.size (cellK l) (((keysS l).take q).filter (fun k=>live (cellK l k))) zs∧Below wt.heap.size wt wx) (fun _ i _=>m - (intOf i).toNat)
     case atStart=>exact ⟨0,[],by omega,rfl,ownsC_nil _ _,⟨rfl,fun c hc=>by cases hc⟩,Below.refl _ _⟩
     case round =>
       obtain ⟨q,zs,hq,rfl,ho,hra,hb⟩:=hrel
       obtain ⟨wx,rfl⟩:∃ wx,wx=wr:=⟨_,rfl⟩
       have HO:=Lib.hid ho
       have HRA:=Lib.hid hra
       have HB:=Lib.hid hb
       have HSR:=Lib.hid hb.size
       clear ho hra hb
       by_cases hlt2:q < m
       · have b2:decide ((q:Int) < (m:Int))=true:=by simpa using hlt2
         obtain ⟨kk, hkk⟩ : ∃ kk, (keysS l)[q]? = some kk := ⟨(keysS l)[q]'(by rw [← HMM.out.1]; exact hlt2), List.getElem?_eq_getElem _⟩
         obtain ⟨b,off,rfl,hbl,p0⟩:=HFT.out q kk hkk
         have p1:=(HB.out.cell (p:=⟨b,off + q,none⟩) hbl).trans p0
         have HKK:=Lib.hid hkk
         clear hkk p0 hbl
         go_wp2_with fail
         obtain ⟨C,hC⟩:∃ C,C=wx.heap.size:=⟨_,rfl⟩
         obtain ⟨w0,hw0⟩:∃ w0,w0=wx.alloc (.cells #[.string kk,.bool false,.string ⟨#[]⟩,.int .i64 0,.slice none 0 0] 105):=⟨_,rfl⟩
         have HB0:Hid (Below w.heap.size w w0):=Lib.hid (by rw [hw0];exact (HBT.out.trans (HB.out.mono HBT.out.size)).alloc (Nat.le_trans HBT.out.size HSR.out) _)
         have HW0:Hid (CelW w0 w0 C wt.heap.size kk cel0 (.slice none 0 0)):=Lib.hid (by
           rw [hC]
           exact ⟨by rw [hw0];exact (MapKept.heap_alloc wx _).1,ownsS_nil _ _,by simp [Value.ownBlock],fun _=>rfl,grown_refl _ _,by rw [hw0];simp,HSR.out,by simp [cel0]⟩)
         have HCX:Hid (C=wx.heap.size∧w0.heap.size=wx.heap.size + 1∧w.heap.size≤C∧Below wx.heap.size wx w0):=Lib.hid ⟨hC,by rw [hw0];simp,by rw [hC];exact Nat.le_trans HBT.out.size HSR.out,by rw [hw0];exact (Below.refl _ wx).alloc (Nat.le_refl _) _⟩
         rw [←hw0]
         rw [←hC]
         clear hC hw0
         go_loopw [44] (fun i wr=>∃ (j:Nat) (lv:Value),j≤k∧i=.int .i64 j∧CelW w0 wr C wt.heap.size kk (cellK (l.take j) kk) lv) (fun i _=>k - (intOf i).toNat)
         case atStart=>exact ⟨0,_,by omega,rfl,by rw [List.take_zero,cellK_nil];exact HW0.out⟩
         case round =>
           obtain ⟨j,lv,hj,rfl,hcw⟩:=hrel
           obtain ⟨wo,rfl⟩:∃ wo,wo=wr:=⟨_,rfl⟩
           have HCW:=Lib.hid hcw
           clear hcw
           by_cases hlt3:j < k
           · have b3:decide ((j:Int) < (k:Int))=true:=by simpa using hlt3
             obtain ⟨x, hx⟩ : ∃ x, l[j]? = some x := ⟨l[j]'(by rw [← HN.out]; exact hlt3), List.getElem?_eq_getElem _⟩
             obtain ⟨b',off',rfl,hbl,c0,c1,c2,c3,c4,c5⟩:=HF.out j x hx
             have HX:=Lib.hid hx
             have hx0:=HR.out x (List.mem_of_getElem? hx)
             obtain ⟨T,Re,K,key,val,N⟩:=x
             simp only at c0 c1 c2 c3 c4 c5
             have hbo:Below w.heap.size w wo:=below_of_grown HB0.out HCW.out.gr HB0.out.size (fun g e=>by have:=HCX.out.2.2.1;cases e;omega)
             have up:∀ j u,w.cell? ⟨b',j,none⟩=some u→wo.cell? ⟨b',j,none⟩=some u:=fun j u hu=>(hbo.cell (p:=⟨b',j,none⟩) hbl).trans hu
             have e0:=up _ _ c0
             have e1:=up _ _ c1
             have e2:=up _ _ c2
             have e3:=up _ _ c3
             have e4:=up _ _ c4
             have e5:=up _ _ c5
             have HX0:=Lib.hid hx0
             clear hx hx0 c0 c1 c2 c3 c4 c5 up hbl hbo
             by_cases he:key=kk
             · subst he
               have hbs:=bne_same key
               have hbe:=beq_same key
               have HK:=Lib.hid (wrF_good HX0.out)
               simp only at HK
               have hcl:C < wo.heap.size:=HCW.out.lt
               have hne:¬ wo.heap.size=C:=by omega
               have hne2:¬ C=wo.heap.size:=by omega
               obtain ⟨g0,g1,g2,g3,g4,f0,f1,f2,f3,f4⟩:=refcells HCW.out.row
               obtain ⟨cc,hcc⟩:∃ cc,cc=cellK (l.take j) key:=⟨_,rfl⟩
               have HYES:=Lib.hid (cellK_yes (k:=key) HX.out rfl)
               rw [←hcc] at HYES g1 g2 g3 HCW
               obtain ⟨ch,ct,cs,cl⟩:=cc
               simp only at g0 g1 g2 g3 g4
               clear hcc
               obtain ⟨la,lc,rfl⟩:=HCW.out.own.slice
               simp only at HCW g4
               rcases HK.out.1 with rfl | rfl | rfl | rfl
               · go_wp2_with fail
                 go_region
                 go_wp2
                 go_roundw
                 · have e1:stepC ⟨ch,ct,cs,cl⟩ ⟨T,Re,1,key,val,N⟩={ (⟨ch,ct,cs,cl⟩:Cel) with has:=true,text:=val }:=by simp [stepC]
                   exact ⟨j + 1,_,by omega,by simp,by rw [HYES.out,e1];exact ((HCW.out.text val).alloc _).drew⟩
                 · simp [intOf];omega
               · go_wp2
                 go_roundw
                 · exact ⟨j + 1,_,by omega,by simp,by rw [HYES.out,stepC_drop rfl];exact HCW.out.zero.alloc _⟩
                 · simp [intOf];omega
               · go_wp2
                 go_roundw
                 · have e1:stepC ⟨ch,ct,cs,cl⟩ ⟨T,Re,3,key,val,N⟩={ (⟨ch,ct,cs,cl⟩:Cel) with sum:=wrap64 (cs + N) }:=by simp [stepC];exact IntWalk.i64_left _
                   exact ⟨j + 1,_,by omega,by simp,by rw [HYES.out,e1];exact (HCW.out.sum _).alloc _⟩
                 · simp [intOf];omega
               · obtain ⟨p,hp⟩:∃ p,p=cl.length:=⟨_,rfl⟩
                 obtain ⟨i,hi⟩:∃ i,i=min N.toNat p:=⟨_,rfl⟩
                 obtain ⟨hN0,hN1⟩:=HK.out.2.2.2 rfl
                 have hmin:=min_is hN0 hi
                 have hmif:=min_if hN0 hi
                 have HI:Hid (i=min N.toNat p∧i≤p∧p=cl.length):=Lib.hid ⟨hi,by omega,hp⟩
                 have hp1000:p≤1000:=by rw [hp];exact HCW.out.len
                 have hip:i≤p:=HI.out.2.1
                 rw [←hp] at HCW g4
                 clear hi hp hN0 hN1
                 -- INSERT
                 go_wp2_with fail
                 have hcwd:=(HCW.out.alloc (.cells #[.int .i64 T,.int .i64 Re,.int .i64 4,.string key,.string val,.int .i64 N] 26)).drew
                 obtain ⟨wz,hwz⟩:∃ wz,wz=(wo.alloc (.cells #[.int .i64 T,.int .i64 Re,.int .i64 4,.string key,.string val,.int .i64 N] 26)).drew:=⟨_,rfl⟩
                 rw [←hwz] at hcwd
                 have hrx:wz.heap[wo.heap.size]? = some (.cells #[.int .i64 T,.int .i64 Re,.int .i64 4,.string key,.string val,.int .i64 N] 26 (0,0)):=by rw [hwz];exact (MapKept.heap_alloc wo _).1
                 have HLN:Hid ((cellK (l.take (j + 1)) key).list.length≤1000):=Lib.hid (by have:=cellK_len (l.take (j + 1)) key;rw [List.length_take] at this;have:=HN.out;omega)
                 have HCZ:Hid (C < wz.heap.size∧wt.heap.size≤C):=Lib.hid ⟨hcwd.lt,hcwd.hH⟩
                 have HCD:Hid (CelW w0 wz C wt.heap.size key ⟨ch,ct,cs,cl⟩ (.slice la p lc)):=Lib.hid hcwd
                 have HRX:=Lib.hid hrx
                 have hplc:p≤lc:=by rw [HI.out.2.2];exact own_cap HCD.out.own
                 have hilc:i≤lc:=by omega
                 have HIL:Hid (i≤cl.length):=Lib.hid (by rw [←HI.out.2.2];exact hip)
                 have HST:Hid (stepC ⟨ch,ct,cs,cl⟩ ⟨T,Re,4,key,val,N⟩=⟨ch,ct,cs,cl.take i ++ [val] ++ cl.drop i⟩):=Lib.hid (stepC_ins (by rw [←HI.out.2.2];exact HI.out.1))
                 obtain ⟨X3,hX3⟩:∃ X3,X3=Value.slice (if lc=i then la else Option.map (fun x=>x.add i) la) (p - i) (lc - i):=⟨_,rfl⟩
                 have HX3:=Lib.hid hX3.symm
                 have UP:Hid (∀ W',Below wz.heap.size wz W'→(W'.cell? ⟨C,4,none⟩=some (.slice la p lc)∧W'.cell? ⟨wo.heap.size,4,none⟩=some (.string val))∧CelW w0 W' C wt.heap.size key ⟨ch,ct,cs,cl⟩ (.slice la p lc)∧Txt W' (.slice la i lc) (cl.take i)∧Txt W' X3 (cl.drop i)):=Lib.hid (fun W' hb=>by
                   have h1:=HCD.out.below hb
                   refine ⟨⟨cell_of_row _ _ 4 _ _ _ h1.row,cell_of_row _ _ 4 _ _ _ ((hb.block wo.heap.size (Array.getElem?_eq_some_iff.1 HRX.out).1).trans HRX.out)⟩,h1,txt_take h1.own HIL.out,?_⟩
                   rw [←HX3.out,HI.out.2.2]
                   exact txt_drop h1.own HIL.out)
                 have HBZ:Hid (Below wz.heap.size wz wz):=Lib.hid (Below.refl _ _)
                 have k0:=(UP.out _ HBZ.out).1
                 have HWZ:=Lib.hid hwz
                 rw [hwz] at k0
                 clear hwz hcwd hrx hX3 g1 g2 g3 g4 f0 f1 f2 f3 f4 hmin hmif
                 refine wp_region_Z 15 (S:=fun W'=>W'.cell? ⟨C,4,none⟩=some (.slice la p lc)∧W'.cell? ⟨wo.heap.size,4,none⟩=some (.string val)) (by kernel_rfl) k0 (fun hSS=>?_)
                 clear hSS
                 try simp only [Act.put,List.getElem_toArray,List.getElem_cons_zero,List.setIfInBounds_toArray,List.set_cons_zero,List.set_cons_succ]
                 rw [←HWZ.out] at k0 ⊢
                 refine wpAnyZ_take (i:=0) (v:=?vz1) rfl (by kernel_rfl) (by kernel_rfl) (by kernel_rfl) (fun _ _ _ h=>h) (Or.inl ⟨by rfl,?hz1⟩) (by assumption) ?rz1
                 case hz1=>(intro W hSw;(try dsimp only at hSw);go_simp;all_goals (with_reducible rfl))
                 try simp only [Act.put,List.getElem_toArray,List.getElem_cons_zero,List.setIfInBounds_toArray,List.set_cons_zero,List.set_cons_succ]
                 refine wpAnyZ_take (i:=1) (v:=?vz2) rfl (by kernel_rfl) (by kernel_rfl) (by kernel_rfl) (fun _ _ _ h=>h) (Or.inl ⟨by rfl,?hz2⟩) (by assumption) ?rz2
                 case hz2=>(intro W hSw;(try dsimp only at hSw);go_simp;all_goals (with_reducible rfl))
                 try simp only [Act.put,List.getElem_toArray,List.getElem_cons_zero,List.getElem_cons_succ,List.setIfInBounds_toArray,List.set_cons_zero,List.set_cons_succ]
                 refine wpAnyZ_take (i:=2) (v:=?vz3) rfl (by kernel_rfl) (by kernel_rfl) (by kernel_rfl) (fun _ _ _ h=>h) (Or.inl ⟨by rfl,?hz3⟩) (by assumption) ?rz3
                 case hz3=>(intro W hSw;(try dsimp only at hSw);go_simp;all_goals (with_reducible rfl))
                 try simp only [Act.put,List.getElem_toArray,List.getElem_cons_zero,List.getElem_cons_succ,List.setIfInBounds_toArray,List.set_cons_zero,List.set_cons_succ]
                 refine wpAnyZ_take (i:=3) (v:=?vz4) rfl (by kernel_rfl) (by kernel_rfl) (by kernel_rfl) (fun _ _ _ h=>h) (Or.inl ⟨by rfl,?hz4⟩) (by assumption) ?rz4
                 case hz4=>(intro W hSw;(try dsimp only at hSw);go_simp;all_goals (with_reducible rfl))
                 try simp only [Act.put,List.getElem_toArray,List.getElem_cons_zero,List.getElem_cons_succ,List.setIfInBounds_toArray,List.set_cons_zero,List.set_cons_succ]
                 refine wpAnyZ_take (i:=5) (v:=?vz5) rfl (by kernel_rfl) (by kernel_rfl) (by kernel_rfl) (fun _ _ _ h=>h) (Or.inl ⟨by rfl,?hz5⟩) (by assumption) ?rz5
                 case hz5=>(intro W hSw;(try dsimp only at hSw);go_simp;all_goals (with_reducible rfl))
                 try simp only [Act.put,List.getElem_toArray,List.getElem_cons_zero,List.getElem_cons_succ,List.setIfInBounds_toArray,List.set_cons_zero,List.set_cons_succ]
                 refine wpAnyZ_take (i:=6) (v:=?vz6) rfl (by kernel_rfl) (by kernel_rfl) (by kernel_rfl) (fun _ _ _ h=>h) (Or.inl ⟨by rfl,?hz6⟩) (by assumption) ?rz6
                 case hz6=>(intro W hSw;(try dsimp only at hSw);go_simp;all_goals (with_reducible rfl))
                 try simp only [Act.put,List.getElem_toArray,List.getElem_cons_zero,List.getElem_cons_succ,List.setIfInBounds_toArray,List.set_cons_zero,List.set_cons_succ]
                 refine wpAnyZ_take (i:=9) (v:=?vz7) rfl (by kernel_rfl) (by kernel_rfl) (by kernel_rfl) (fun _ _ _ h=>h) (Or.inl ⟨by rfl,?hz7⟩) (by assumption) ?rz7
                 case hz7=>(intro W hSw;(try dsimp only at hSw);go_simp;all_goals (with_reducible rfl))
                 try simp only [Act.put,List.getElem_toArray,List.getElem_cons_zero,List.getElem_cons_succ,List.setIfInBounds_toArray,List.set_cons_zero,List.set_cons_succ]
                 refine wpAnyZ_take (i:=10) (v:=?vz8) rfl (by kernel_rfl) (by kernel_rfl) (by kernel_rfl) (fun _ _ _ h=>h) (Or.inl ⟨by rfl,?hz8⟩) (by assumption) ?rz8
                 case hz8=>(intro W hSw;(try dsimp only at hSw);go_simp;all_goals (with_reducible rfl))
                 try simp only [Act.put,List.getElem_toArray,List.getElem_cons_zero,List.getElem_cons_succ,List.setIfInBounds_toArray,List.set_cons_zero,List.set_cons_succ]
                 refine wpAnyZ_take (i:=11) (v:=?vz9) rfl (by kernel_rfl) (by kernel_rfl) (by kernel_rfl) (fun _ _ _ h=>h) (Or.inl ⟨by rfl,?hz9⟩) (by assumption) ?rz9
                 case hz9=>(intro W hSw;(try dsimp only at hSw);go_simp;all_goals (with_reducible rfl))
                 try simp only [Act.put,List.getElem_toArray,List.getElem_cons_zero,List.getElem_cons_succ,List.setIfInBounds_toArray,List.set_cons_zero,List.set_cons_succ]
                 refine wpAnyZ_take (i:=12) (v:=X3) rfl (by kernel_rfl) (by kernel_rfl) (by kernel_rfl) (fun _ _ _ h=>h) (Or.inl ⟨by rfl,?hz10⟩) (by assumption) ?rz10
                 case hz10=>(intro W hSw;(try dsimp only at hSw);go_simp;rw [HX3.out])
                 try simp only [Act.put,List.getElem_toArray,List.getElem_cons_zero,List.getElem_cons_succ,List.setIfInBounds_toArray,List.set_cons_zero,List.set_cons_succ]
                 refine wpAnyZ_ready (rs:=[4,7]) (by kernel_rfl) (by simp) ?_
                 refine AllReadyZ.cons rfl (fun KK hKK=>?_) (AllReadyZ.cons rfl (fun KK hKK=>?_) (AllReadyZ.nil))
                 · refine step_append_txt _ rfl _ _ rfl wz.heap.size (.slice none 0 0) [] rfl (ownsS_nil _ _) (.slice la i lc) (cl.take i) rfl (UP.out _ HBZ.out).2.2.1 (by rw [List.length_take];simp;omega) HBZ.out.size ?_
                   intro v1 w1 ho1 hg1 hat1
                   rw [List.nil_append] at ho1
                   obtain ⟨a1',c1'',rfl⟩:=ho1.slice
                   obtain ⟨m1,hm1⟩:∃ m,m=(cl.take i).length:=⟨_,rfl⟩
                   rw [←hm1] at ho1 ⊢
                   have HM1:=Lib.hid hm1
                   clear hm1
                   have HB1:Hid (Below wz.heap.size wz w1):=Lib.hid (below_of_grown HBZ.out hg1 HBZ.out.size (fun g e=>by cases e))
                   have HO1:Hid (ownsS w1 wz.heap.size (.slice a1' m1 c1'') (cl.take i)):=Lib.hid ho1
                   have k1:=(UP.out _ HB1.out).1
                   clear ho1 hg1 hat1
                   refine hKK.out _ _ k1 (fun hSS=>?_)
                   clear hKK hSS
                   try simp only [Act.put,List.getElem_toArray,List.getElem_cons_zero,List.getElem_cons_succ,List.setIfInBounds_toArray,List.set_cons_zero,List.set_cons_succ]
                   refine wpAnyZ_ready (rs:=[7]) (by kernel_rfl) (by simp) ?_
                   refine AllReadyZ.cons rfl (fun KK hKK=>?_) (AllReadyZ.nil)
                   go_simp
                   have HB2:Hid (Below wz.heap.size wz (w1.alloc (.cells #[.string val] 9))):=Lib.hid (HB1.out.alloc HB1.out.size _)
                   have HO2:Hid (ownsS (w1.alloc (.cells #[.string val] 9)) wz.heap.size (.slice a1' m1 c1'') (cl.take i)):=Lib.hid (HO1.out.alloc _)
                   have HL2:Hid (Txt (w1.alloc (.cells #[.string val] 9)) (.slice (some ⟨w1.heap.size,0,none⟩) 1 1) [val]):=Lib.hid (txt_lit (cell_of_row _ _ 0 _ _ _ (MapKept.heap_alloc w1 _).1))
                   have k2:=(UP.out _ HB2.out).1
                   refine hKK.out _ _ k2 (fun hSS=>?_)
                   clear hKK hSS
                   try simp only [Act.put,List.getElem_toArray,List.getElem_cons_zero,List.getElem_cons_succ,List.setIfInBounds_toArray,List.set_cons_zero,List.set_cons_succ]
                   refine wpAnyZ_ready (rs:=[8]) (by kernel_rfl) (by simp) ?_
                   refine AllReadyZ.cons rfl (fun KK hKK=>?_) (AllReadyZ.nil)
                   refine step_append_txt _ rfl _ _ rfl wz.heap.size _ (cl.take i) rfl HO2.out (.slice (some ⟨w1.heap.size,0,none⟩) 1 1) [val] rfl HL2.out (by rw [List.length_take];simp;omega) HB2.out.size ?_
                   intro v3 w3 ho3 hg3 hat3
                   obtain ⟨a3',c3'',rfl⟩:=ho3.slice
                   obtain ⟨m3,hm3⟩:∃ m,m=(cl.take i ++ [val]).length:=⟨_,rfl⟩
                   rw [←hm3] at ho3 ⊢
                   have HM3:=Lib.hid hm3
                   clear hm3
                   have HB3:Hid (Below wz.heap.size wz w3):=Lib.hid (below_of_grown HB2.out hg3 HB2.out.size (fun g e=>(HO2.out.lt g e).1))
                   have HO3:Hid (ownsS w3 wz.heap.size (.slice a3' m3 c3'') (cl.take i ++ [val])):=Lib.hid ho3
                   have k3:=(UP.out _ HB3.out).1
                   clear ho3 hg3 hat3
                   refine hKK.out _ _ k3 (fun hSS=>?_)
                   clear hKK hSS
                   try simp only [Act.put,List.getElem_toArray,List.getElem_cons_zero,List.getElem_cons_succ,List.setIfInBounds_toArray,List.set_cons_zero,List.set_cons_succ]
                   refine wpAnyZ_ready (rs:=[13]) (by kernel_rfl) (by simp) ?_
                   refine AllReadyZ.cons rfl (fun KK hKK=>?_) (AllReadyZ.nil)
                   refine step_append_txt _ rfl _ _ rfl wz.heap.size _ (cl.take i ++ [val]) rfl HO3.out X3 (cl.drop i) rfl (UP.out _ HB3.out).2.2.2 (by have:=HI.out.2.2;rw [List.length_append,List.length_take,List.length_drop];simp;omega) HB3.out.size ?_
                   intro v4 w4 ho4 hg4 hat4
                   obtain ⟨a4',c4'',rfl⟩:=ho4.slice
                   obtain ⟨m4,hm4⟩:∃ m,m=(cl.take i ++ [val] ++ cl.drop i).length:=⟨_,rfl⟩
                   rw [←hm4] at ho4 ⊢
                   have HM4:=Lib.hid hm4
                   clear hm4
                   have HB4:Hid (Below wz.heap.size wz w4):=Lib.hid (below_of_grown HB3.out hg4 HB3.out.size (fun g e=>(HO3.out.lt g e).1))
                   have HO4:Hid (ownsS w4 wz.heap.size (.slice a4' m4 c4'') (cl.take i ++ [val] ++ cl.drop i)):=Lib.hid ho4
                   have k4:=(UP.out _ HB4.out).1
                   have hrow4:=(UP.out _ HB4.out).2.1
                   obtain ⟨g0',g1',g2',g3',g4',f0',f1',f2',f3',f4'⟩:=refcells hrow4.row
                   have HR4:=Lib.hid hrow4
                   clear ho4 hg4 hat4 hrow4
                   refine hKK.out _ _ k4 (fun hSS=>?_)
                   clear hKK hSS
                   try simp only [Act.put,List.getElem_toArray,List.getElem_cons_zero,List.getElem_cons_succ,List.setIfInBounds_toArray,List.set_cons_zero,List.set_cons_succ]
                   refine wpAnyZ_take (i:=14) (v:=?vz11) rfl (by kernel_rfl) (by kernel_rfl) (by kernel_rfl) (fun _ _ _ h=>h) (Or.inl ⟨by rfl,?hz11⟩) (by assumption) ?rz11
                   case hz11=>(intro W hSw;(try dsimp only at hSw);go_simp;all_goals (with_reducible rfl))
                   try simp only [Act.put,List.getElem_toArray,List.getElem_cons_zero,List.getElem_cons_succ,List.setIfInBounds_toArray,List.set_cons_zero,List.set_cons_succ]
                   refine wpAnyZ_ready (rs:=[15]) (by kernel_rfl) (by simp) ?_
                   refine AllReadyZ.last rfl (of_decide_eq_true (by kernel_rfl)) (fun KK hKK=>?_)
                   go_simp
                   refine hKK.out _ _ ?_
                   clear hKK
                   try simp only [Act.put,List.getElem_toArray,List.getElem_cons_zero,List.getElem_cons_succ,List.setIfInBounds_toArray,List.set_cons_zero,List.set_cons_succ]
                   refine wpAnyZ_done (by kernel_rfl) ?_ _
                   clear k0 k1 k2 k3 k4 g0' g1' g2' g3' g4' f0' f1' f2' f3' f4'
                   go_wp2
                   go_roundw
                   · exact ⟨j + 1,_,by omega,by simp,by rw [HYES.out,HST.out];exact HR4.out.ins HO4.out HCZ.out (by simp) (by rw [HYES.out,HST.out] at HLN;exact HLN.out)⟩
                   · simp [intOf];omega
                 · go_simp
                   have HBL:Hid (Below wz.heap.size wz (wz.alloc (.cells #[.string val] 9))):=Lib.hid ((Below.refl _ wz).alloc (Nat.le_refl _) _)
                   have k2:=(UP.out _ HBL.out).1
                   refine hKK.out _ _ k2 (fun hSS=>?_)
                   clear hKK hSS
                   try simp only [Act.put,List.getElem_toArray,List.getElem_cons_zero,List.getElem_cons_succ,List.setIfInBounds_toArray,List.set_cons_zero,List.set_cons_succ]
                   refine wpAnyZ_ready (rs:=[4]) (by kernel_rfl) (by simp) ?_
                   refine AllReadyZ.cons rfl (fun KK hKK=>?_) (AllReadyZ.nil)
                   refine step_append_txt _ rfl _ _ rfl wz.heap.size (.slice none 0 0) [] rfl (ownsS_nil _ _) (.slice la i lc) (cl.take i) rfl (UP.out _ HBL.out).2.2.1 (by rw [List.length_take];simp;omega) HBL.out.size ?_
                   intro v1 w1 ho1 hg1 hat1
                   rw [List.nil_append] at ho1
                   obtain ⟨a1',c1'',rfl⟩:=ho1.slice
                   obtain ⟨m1,hm1⟩:∃ m,m=(cl.take i).length:=⟨_,rfl⟩
                   rw [←hm1] at ho1 ⊢
                   have HM1:=Lib.hid hm1
                   clear hm1
                   have HB1:Hid (Below wz.heap.size wz w1):=Lib.hid (below_of_grown HBL.out hg1 HBL.out.size (fun g e=>by cases e))
                   have HL2:Hid (Txt w1 (.slice (some ⟨wz.heap.size,0,none⟩) 1 1) [val]):=Lib.hid (txt_lit (cell_of_row _ _ 0 _ _ _ ((hg1.block wz.heap.size (by simp) (by simp [Value.ownBlock])).trans (MapKept.heap_alloc wz _).1)))
                   have HO1:Hid (ownsS w1 wz.heap.size (.slice a1' m1 c1'') (cl.take i)):=Lib.hid ho1
                   have k1:=(UP.out _ HB1.out).1
                   clear ho1 hg1 hat1
                   have HB2:=HB1
                   have HO2:=HO1
                   refine hKK.out _ _ k1 (fun hSS=>?_)
                   clear hKK hSS
                   try simp only [Act.put,List.getElem_toArray,List.getElem_cons_zero,List.getElem_cons_succ,List.setIfInBounds_toArray,List.set_cons_zero,List.set_cons_succ]
                   refine wpAnyZ_ready (rs:=[8]) (by kernel_rfl) (by simp) ?_
                   refine AllReadyZ.cons rfl (fun KK hKK=>?_) (AllReadyZ.nil)
                   refine step_append_txt _ rfl _ _ rfl wz.heap.size _ (cl.take i) rfl HO2.out (.slice (some ⟨wz.heap.size,0,none⟩) 1 1) [val] rfl HL2.out (by rw [List.length_take];simp;omega) HB2.out.size ?_
                   intro v3 w3 ho3 hg3 hat3
                   obtain ⟨a3',c3'',rfl⟩:=ho3.slice
                   obtain ⟨m3,hm3⟩:∃ m,m=(cl.take i ++ [val]).length:=⟨_,rfl⟩
                   rw [←hm3] at ho3 ⊢
                   have HM3:=Lib.hid hm3
                   clear hm3
                   have HB3:Hid (Below wz.heap.size wz w3):=Lib.hid (below_of_grown HB2.out hg3 HB2.out.size (fun g e=>(HO2.out.lt g e).1))
                   have HO3:Hid (ownsS w3 wz.heap.size (.slice a3' m3 c3'') (cl.take i ++ [val])):=Lib.hid ho3
                   have k3:=(UP.out _ HB3.out).1
                   clear ho3 hg3 hat3
                   refine hKK.out _ _ k3 (fun hSS=>?_)
                   clear hKK hSS
                   try simp only [Act.put,List.getElem_toArray,List.getElem_cons_zero,List.getElem_cons_succ,List.setIfInBounds_toArray,List.set_cons_zero,List.set_cons_succ]
                   refine wpAnyZ_ready (rs:=[13]) (by kernel_rfl) (by simp) ?_
                   refine AllReadyZ.cons rfl (fun KK hKK=>?_) (AllReadyZ.nil)
                   refine step_append_txt _ rfl _ _ rfl wz.heap.size _ (cl.take i ++ [val]) rfl HO3.out X3 (cl.drop i) rfl (UP.out _ HB3.out).2.2.2 (by have:=HI.out.2.2;rw [List.length_append,List.length_take,List.length_drop];simp;omega) HB3.out.size ?_
                   intro v4 w4 ho4 hg4 hat4
                   obtain ⟨a4',c4'',rfl⟩:=ho4.slice
                   obtain ⟨m4,hm4⟩:∃ m,m=(cl.take i ++ [val] ++ cl.drop i).length:=⟨_,rfl⟩
                   rw [←hm4] at ho4 ⊢
                   have HM4:=Lib.hid hm4
                   clear hm4
                   have HB4:Hid (Below wz.heap.size wz w4):=Lib.hid (below_of_grown HB3.out hg4 HB3.out.size (fun g e=>(HO3.out.lt g e).1))
                   have HO4:Hid (ownsS w4 wz.heap.size (.slice a4' m4 c4'') (cl.take i ++ [val] ++ cl.drop i)):=Lib.hid ho4
                   have k4:=(UP.out _ HB4.out).1
                   have hrow4:=(UP.out _ HB4.out).2.1
                   obtain ⟨g0',g1',g2',g3',g4',f0',f1',f2',f3',f4'⟩:=refcells hrow4.row
                   have HR4:=Lib.hid hrow4
                   clear ho4 hg4 hat4 hrow4
                   refine hKK.out _ _ k4 (fun hSS=>?_)
                   clear hKK hSS
                   try simp only [Act.put,List.getElem_toArray,List.getElem_cons_zero,List.getElem_cons_succ,List.setIfInBounds_toArray,List.set_cons_zero,List.set_cons_succ]
                   refine wpAnyZ_take (i:=14) (v:=?vz12) rfl (by kernel_rfl) (by kernel_rfl) (by kernel_rfl) (fun _ _ _ h=>h) (Or.inl ⟨by rfl,?hz12⟩) (by assumption) ?rz12
                   case hz12=>(intro W hSw;(try dsimp only at hSw);go_simp;all_goals (with_reducible rfl))
                   try simp only [Act.put,List.getElem_toArray,List.getElem_cons_zero,List.getElem_cons_succ,List.setIfInBounds_toArray,List.set_cons_zero,List.set_cons_succ]
                   refine wpAnyZ_ready (rs:=[15]) (by kernel_rfl) (by simp) ?_
                   refine AllReadyZ.last rfl (of_decide_eq_true (by kernel_rfl)) (fun KK hKK=>?_)
                   go_simp
                   refine hKK.out _ _ ?_
                   clear hKK
                   try simp only [Act.put,List.getElem_toArray,List.getElem_cons_zero,List.getElem_cons_succ,List.setIfInBounds_toArray,List.set_cons_zero,List.set_cons_succ]
                   refine wpAnyZ_done (by kernel_rfl) ?_ _
                   clear k0 k1 k2 k3 k4 g0' g1' g2' g3' g4' f0' f1' f2' f3' f4'
                   go_wp2
                   go_roundw
                   · exact ⟨j + 1,_,by omega,by simp,by rw [HYES.out,HST.out];exact HR4.out.ins HO4.out HCZ.out (by simp) (by rw [HYES.out,HST.out] at HLN;exact HLN.out)⟩
                   · simp [intOf];omega
             · have hbs:=bne_diff he
               have hbe:=beq_diff he
               have HNO:=Lib.hid (cellK_no (k:=kk) HX.out he)
               clear he
               go_wp2
               go_roundw
               · exact ⟨j + 1,lv,by omega,by simp,by rw [HNO.out];exact HCW.out.alloc _⟩
               · simp [intOf];omega
           · have b3:decide ((j:Int) < (k:Int))=false:=by simp;omega
             obtain rfl:j=k:=by omega
             have hfull:l.take j=l:=List.take_of_length_le (by rw [HN.out];exact Nat.le_refl _)
             rw [hfull] at HCW
             clear hfull
             obtain ⟨cc,hcc⟩:∃ cc,cc=cellK l kk:=⟨_,rfl⟩
             rw [←hcc] at HCW
             have HCC:=Lib.hid hcc
             clear hcc
             obtain ⟨la,lc,rfl⟩:=HCW.out.own.slice
             obtain ⟨g0,g1,g2,g3,g4,f0,f1,f2,f3,f4⟩:=refcells HCW.out.row
             obtain ⟨ch,ct,cs,cl⟩:=cc
             simp only at g1 g2 g3 g4 HCW
             have HBO:Hid (Below wt.heap.size wt wo):=Lib.hid (below_of_grown (HB.out.trans (HCX.out.2.2.2.mono HSR.out)) HCW.out.gr (by have:=HCX.out.2.1;have:=HSR.out;omega) (fun g e=>by cases e;exact HCW.out.hH))
             have HOZ:Hid (wt.heap.size≤wo.heap.size):=Lib.hid HBO.out.size
             have hg0:wx.grownBy w0 none:=grown_of_below HCX.out.2.2.2
             have hoc0:ownsC w0 wt.heap.size u8 zs:=World.ownsRow.kept HO.out hg0 (by cases u8.ownBlock with | none=>exact .inl rfl | some g=>exact .inr (by simp))
             have HOC:Hid (ownsC wo wt.heap.size u8 zs):=Lib.hid (World.ownsRow.kept hoc0 HCW.out.gr (by
               cases e:u8.ownBlock with
               | none=>exact .inl rfl
               | some g=>exact .inr (fun e2=>by have h1:=(HO.out.lt g e).2;have e3:g=C:=Option.some.inj e2;have:=HCX.out.1;omega)))
             have HRO:Hid (RowsAre wo wt.heap.size (cellK l) (((keysS l).take q).filter (fun k=>live (cellK l k))) zs):=Lib.hid ⟨HRA.out.1,fun c hc=>by
               obtain ⟨h1,h2,h3,h4⟩:=HRA.out.2 c hc
               refine ⟨h1,h2,h3,World.ownsRow.kept (World.ownsRow.kept h4 hg0 (by cases c.list.ownBlock with | none=>exact .inl rfl | some g=>exact .inr (by simp))) HCW.out.gr ?_⟩
               cases e:c.list.ownBlock with
               | none=>exact .inl rfl
               | some g=>exact .inr (fun e2=>by have h5:=(h4.lt g e).2;have e3:g=C:=Option.some.inj e2;have:=HCX.out.1;omega)⟩
             have HZL:Hid (zs.length≤1000):=Lib.hid (by
               have h1:=congrArg List.length HRA.out.1
               rw [List.length_map] at h1
               have h2:=List.length_filter_le (fun k=>live (cellK l k)) ((keysS l).take q)
               have h3:=List.length_take_le q (keysS l)
               omega)
             have hp1000:cl.length≤1000:=HCW.out.len
             obtain ⟨p,hp⟩:∃ p,p=cl.length:=⟨_,rfl⟩
             rw [←hp] at HCW g4 hp1000
             have HP:=Lib.hid hp
             clear hp hg0 hoc0 HB0 HW0
             cases ch with
             | true =>
               go_wp2_with (at_builtin;refine wpList_append_cv rfl _ _ rfl wt.heap.size _ zs rfl (HOC.out.alloc _) wo.heap.size 1 rfl ⟨kk,true,ct,cs,.slice la p lc⟩ rfl (MapKept.heap_alloc wo _).1 (by have:=HZL.out;omega) (by have:=HOZ.out;simp;omega) ?_;intro g cap w5 ho5 hg5;have HO5:=Lib.hid ho5;have HG5:=Lib.hid hg5;clear ho5 hg5)
               have HBZ:Hid (Below wt.heap.size wt w5):=Lib.hid (below_of_grown (HBO.out.alloc HOZ.out _) HG5.out (by have:=HOZ.out;simp;omega) (fun g e=>(HOC.out.lt g e).1))
               have HRZ:Hid (RowsAre w5 wt.heap.size (cellK l) (((keysS l).take (q + 1)).filter (fun k=>live (cellK l k))) (zs ++ [⟨kk,true,ct,cs,.slice la p lc⟩])):=Lib.hid (by
                 rw [filt_yes HKK.out (by rw [←HCC.out];simp [live])]
                 have h9:=(HRO.out.grown (grown_alloc (grown_refl wo none) (.cells #[.string kk,.bool true,.string ct,.int .i64 cs,.slice la p lc] 105))).kept (HOC.out.alloc _) HG5.out
                 have h6:ownsS (wo.alloc (.cells #[.string kk,.bool true,.string ct,.int .i64 cs,.slice la p lc] 105)) wt.heap.size (.slice la p lc) cl:=ownsS.alloc HCW.out.own _
                 have h5:ownsC (wo.alloc (.cells #[.string kk,.bool true,.string ct,.int .i64 cs,.slice la p lc] 105)) wt.heap.size u8 zs:=HOC.out.alloc _
                 have h8:ownsS w5 wt.heap.size (.slice la p lc) cl:=World.ownsRow.kept h6 HG5.out (rows_apart h6 h5 (by decide))
                 have h7:=h9.add (k:=kk) (u:=.slice la p lc) (by rw [←HCC.out];exact h8)
                 simp only [←HCC.out] at h7
                 exact h7)
               go_wp2
               go_roundw
               · exact ⟨q + 1,_,by omega,by simp,HO5.out,HRZ.out,HBZ.out⟩
               · simp [intOf];omega
             | false =>
               by_cases hcs:cs=0
               · subst hcs
                 cases cl with
                 | nil =>
                   obtain rfl:p=0:=HP.out
                   have HNO:=Lib.hid (filt_no (p:=fun k=>live (cellK l k)) HKK.out (by rw [←HCC.out];simp [live]))
                   go_wp2
                   go_roundw
                   · exact ⟨q + 1,zs,by omega,by simp,HOC.out,by rw [HNO.out];exact HRO.out,HBO.out⟩
                   · simp [intOf];omega
                 | cons y ys =>
                   have hpp:0 < p:=by rw [HP.out];simp
                   have hpi:(0:Int) < (p:Int):=by omega
                   go_wp2_with (at_builtin;refine wpList_append_cv rfl _ _ rfl wt.heap.size _ zs rfl (HOC.out.alloc _) wo.heap.size 1 rfl ⟨kk,false,ct,0,.slice la p lc⟩ rfl (MapKept.heap_alloc wo _).1 (by have:=HZL.out;omega) (by have:=HOZ.out;simp;omega) ?_;intro g cap w5 ho5 hg5;have HO5:=Lib.hid ho5;have HG5:=Lib.hid hg5;clear ho5 hg5)
                   have HBZ:Hid (Below wt.heap.size wt w5):=Lib.hid (below_of_grown (HBO.out.alloc HOZ.out _) HG5.out (by have:=HOZ.out;simp;omega) (fun g e=>(HOC.out.lt g e).1))
                   have HRZ:Hid (RowsAre w5 wt.heap.size (cellK l) (((keysS l).take (q + 1)).filter (fun k=>live (cellK l k))) (zs ++ [⟨kk,false,ct,0,.slice la p lc⟩])):=Lib.hid (by
                     rw [filt_yes HKK.out (by rw [←HCC.out];simp [live])]
                     have h9:=(HRO.out.grown (grown_alloc (grown_refl wo none) (.cells #[.string kk,.bool false,.string ct,.int .i64 0,.slice la p lc] 105))).kept (HOC.out.alloc _) HG5.out
                     have h6:ownsS (wo.alloc (.cells #[.string kk,.bool false,.string ct,.int .i64 0,.slice la p lc] 105)) wt.heap.size (.slice la p lc) (y :: ys):=ownsS.alloc HCW.out.own _
                     have h5:ownsC (wo.alloc (.cells #[.string kk,.bool false,.string ct,.int .i64 0,.slice la p lc] 105)) wt.heap.size u8 zs:=HOC.out.alloc _
                     have h8:ownsS w5 wt.heap.size (.slice la p lc) (y :: ys):=World.ownsRow.kept h6 HG5.out (rows_apart h6 h5 (by decide))
                     have h7:=h9.add (k:=kk) (u:=.slice la p lc) (by rw [←HCC.out];exact h8)
                     simp only [←HCC.out] at h7
                     exact h7)
                   go_wp2
                   go_roundw
                   · exact ⟨q + 1,_,by omega,by simp,HO5.out,HRZ.out,HBZ.out⟩
                   · simp [intOf];omega
               · have b5:(cs != 0)=true:=by simpa using hcs
                 have HCS:=Lib.hid hcs
                 clear hcs
                 go_wp2_with (at_builtin;refine wpList_append_cv rfl _ _ rfl wt.heap.size _ zs rfl (HOC.out.alloc _) wo.heap.size 1 rfl ⟨kk,false,ct,cs,.slice la p lc⟩ rfl (MapKept.heap_alloc wo _).1 (by have:=HZL.out;omega) (by have:=HOZ.out;simp;omega) ?_;intro g cap w5 ho5 hg5;have HO5:=Lib.hid ho5;have HG5:=Lib.hid hg5;clear ho5 hg5)
                 have HBZ:Hid (Below wt.heap.size wt w5):=Lib.hid (below_of_grown (HBO.out.alloc HOZ.out _) HG5.out (by have:=HOZ.out;simp;omega) (fun g e=>(HOC.out.lt g e).1))
                 have HRZ:Hid (RowsAre w5 wt.heap.size (cellK l) (((keysS l).take (q + 1)).filter (fun k=>live (cellK l k))) (zs ++ [⟨kk,false,ct,cs,.slice la p lc⟩])):=Lib.hid (by
                   rw [filt_yes HKK.out (by rw [←HCC.out];simp [live,HCS.out])]
                   have h9:=(HRO.out.grown (grown_alloc (grown_refl wo none) (.cells #[.string kk,.bool false,.string ct,.int .i64 cs,.slice la p lc] 105))).kept (HOC.out.alloc _) HG5.out
                   have h6:ownsS (wo.alloc (.cells #[.string kk,.bool false,.string ct,.int .i64 cs,.slice la p lc] 105)) wt.heap.size (.slice la p lc) cl:=ownsS.alloc HCW.out.own _
                   have h5:ownsC (wo.alloc (.cells #[.string kk,.bool false,.string ct,.int .i64 cs,.slice la p lc] 105)) wt.heap.size u8 zs:=HOC.out.alloc _
                   have h8:ownsS w5 wt.heap.size (.slice la p lc) cl:=World.ownsRow.kept h6 HG5.out (rows_apart h6 h5 (by decide))
                   have h7:=h9.add (k:=kk) (u:=.slice la p lc) (by rw [←HCC.out];exact h8)
                   simp only [←HCC.out] at h7
                   exact h7)
                 go_wp2
                 go_roundw
                 · exact ⟨q + 1,_,by omega,by simp,HO5.out,HRZ.out,HBZ.out⟩
                 · simp [intOf];omega
       · have b2:decide ((q:Int) < (m:Int))=false:=by simp;omega
         obtain rfl:q=m:=by omega
         have hfull:(keysS l).take q=keysS l:=List.take_of_length_le (by rw [HMM.out.1];exact Nat.le_refl _)
         rw [hfull] at HRA
         clear hfull
         go_wp2
         go_ret
         have hn2:((keysS l).filter (fun k=>live (cellK l k))).Nodup:=(keysS_nodup l).filter _
         have hzs:((keysS l).filter (fun k=>live (cellK l k))).map (celAtK zs)=zs:=by
           rw [←HRA.out.1];exact celAtK_all (by rw [HRA.out.1];exact hn2)
         obtain ⟨z,h1,h2⟩:=RowsAre.cells (ks':=(keysS l).filter (fun k=>live (cellK l k))) HRA.out hn2 (List.Perm.refl _) (List.Pairwise.filter _ (keysS_sorted l)) (fun k=>by
           rw [List.mem_filter]
           refine ⟨fun h=>h.2,fun h=>⟨?_,h⟩⟩
           rw [keysS_mem]
           refine Classical.byContradiction fun hn=>?_
           rw [cellK_none (fun w hw e=>hn ⟨w,hw,e⟩)] at h
           cases h) (by rw [hzs];exact HO.out.is)
         refine ⟨_,rfl,?_,HBT.out.trans (HB.out.mono HBT.out.size)⟩
         rw [←h1.is]
         exact h2
end Go.Proofs.YtddbpnplbcjpgaaGreatDoor
