import Derived.Test.YtjkbmfpomgcblaaGreatDoorKr15
import Derived.Test.YtjkbmfpomgcblaaGreatDoorKr14
namespace Go.Proofs.YtjkbmfpomgcblaaGreatDoor
open Go.RowKit
theorem ext_dropV (s:ByteArray) (a:Nat):(s.extract a s.size).data.toList=s.data.toList.drop a:=by
 rw [ext_data,List.take_of_length_le (by rw [←size_data];exact Nat.le_refl _)]
theorem vint_bad (s:ByteArray) (most:Int) (w:World) (hs:s.size≤maxLen) (h0 : -9223372036854775808≤most) (h1:most≤9223372036854775807) (e:Nat) (h:intL s.data.toList most=(0,0,e)) (he:e≠0) :
   Calls Tryz.prog 96 #[.string s,.int .i64 most] w fun r w'=>r=.returned (.tuple #[.int .i64 0,.int .i64 0,.iface 44 (.int .i64 (e:Nat))])∧w=w' :=
 (int_any s most w hs h0 h1).mono fun r w' ⟨h1,h2⟩=>⟨h1.trans (by rw [h];unfold intV errV;rw [if_neg he];rfl),h2⟩
theorem vint_ok (s:ByteArray) (most:Int) (w:World) (hs:s.size≤maxLen) (h0 : -9223372036854775808≤most) (h1:most≤9223372036854775807) (n k:Nat) (h:intL s.data.toList most=(n,k,0)) :
   Calls Tryz.prog 96 #[.string s,.int .i64 most] w fun r w'=>r=.returned (.tuple #[.int .i64 n,.int .i64 k,.nilIface])∧w=w' :=
 (int_any s most w hs h0 h1).mono fun r w' ⟨h1,h2⟩=>⟨h1.trans (by rw [h];rfl),h2⟩
def VGetIs (w:World) (r:Nat ⊕ (List Ent×Nat)) (e:Ending) (w':World):Prop :=
 match r with
 | .inl er=>e=.returned (.tuple #[.slice none 0 0,.int .i64 0,.iface 44 (.int .i64 (er:Nat))])∧Below w.heap.size w w'
 | .inr (run,k)=>∃ v,e=.returned (.tuple #[v,.int .i64 (k:Nat),.nilIface])∧ownsE w' w.heap.size v run∧Below w.heap.size w w'
theorem vget_bad {w:World} {x:Nat ⊕ (List Ent×Nat)} {er:Nat} (h:x=.inl er) (w':World) (hb:Below w.heap.size w w'):VGetIs w x (.returned (.tuple #[.slice none 0 0,.int .i64 0,.iface 44 (.int .i64 (er:Nat))])) w':=by
 rw [h];exact ⟨rfl,hb⟩
theorem vget_good {w:World} {x:Nat ⊕ (List Ent×Nat)} {run:List Ent} {k:Nat} (h:x=.inr (run,k)) (v:Value) (w':World) (ho:ownsE w' w.heap.size v run) (hb:Below w.heap.size w w'):VGetIs w x (.returned (.tuple #[v,.int .i64 (k:Nat),.nilIface])) w':=by
 rw [h];exact ⟨v,rfl,ho,hb⟩
theorem idx2_0 (w:World):(Instr.index 264 (.agg #[.int .i64 200,.int .i64 16]) (.int .i64 0)).run Tryz.prog w=.ok (.int .i64 200) w:=by kernel_rfl
theorem idx2_1 (w:World):(Instr.index 264 (.agg #[.int .i64 200,.int .i64 16]) (.int .i64 1)).run Tryz.prog w=.ok (.int .i64 16) w:=by kernel_rfl
def HD (w wr:World) (g c:Int):Prop:=wr.heap[w.heap.size]? = some (.cells #[.int .i64 g,.int .i64 c] 264 (0,0))∧Below w.heap.size w wr
theorem HD.start (w:World):HD w (w.alloc (.cells #[.int .i64 0,.int .i64 0] 264)) 0 0:=⟨heap_alloc_new _ _,(Below.refl _ _).alloc (Nat.le_refl _) _⟩
theorem HD.lt {w wr:World} {g c:Int} (h:HD w wr g c):w.heap.size < wr.heap.size:=(Array.getElem?_eq_some_iff.1 h.1).1
theorem HD.cells {w wr:World} {g c:Int} (h:HD w wr g c):wr.cell? ⟨w.heap.size,0,none⟩=some (.int .i64 g)∧wr.cell? ⟨w.heap.size,1,none⟩=some (.int .i64 c)∧wr.frozen? ⟨w.heap.size,0,none⟩=false∧wr.frozen? ⟨w.heap.size,1,none⟩=false :=
 ⟨cell_of_row _ _ 0 _ _ (0,0) h.1,cell_of_row _ _ 1 _ _ (0,0) h.1,frozen_of_row _ _ _ _ _ h.1,frozen_of_row _ _ _ _ _ h.1⟩
theorem HD.set0 {w wr:World} {g c:Int} (h:HD w wr g c) (x:Int):HD w (wr.setCell ⟨w.heap.size,0,none⟩ (.int .i64 x)) x c:=⟨by rw [heap_setCell_same _ _ _ _ _ _ h.1];rfl,h.2.setCell (Nat.le_refl _) _⟩
theorem HD.set1 {w wr:World} {g c:Int} (h:HD w wr g c) (x:Int):HD w (wr.setCell ⟨w.heap.size,1,none⟩ (.int .i64 x)) g x:=⟨by rw [heap_setCell_same _ _ _ _ _ _ h.1];rfl,h.2.setCell (Nat.le_refl _) _⟩
def HL (s:List UInt8) (w:World) (k a:Nat) (wr:World):Prop :=
 (k=0∧a=0∧HD w wr 0 0) ∨
 (k=1∧∃ g,intL s 200=(g,a,0)∧a≤s.length∧HD w wr (g:Nat) 0) ∨
 (k=2∧∃ g j c i,a=j + i∧j + i≤s.length∧g≤200∧c≤16∧intL s 200=(g,j,0)∧intL (s.drop j) 16=(c,i,0)∧HD w wr (g:Nat) (c:Nat))
set_option maxRecDepth 100000 in
set_option maxHeartbeats 4000000 in
theorem vget_any (s:ByteArray) (least:Int) (w:World) (hs:s.size≤1000000) (hl0:0≤least) (hl1:least≤1000000) :
   Calls Tryz.prog 206 #[.string s,.int .i64 least] w (VGetIs w (getR s.data.toList 0 least [])):=by
 have i0:=idx2_0
 have i1:=idx2_1
 have hsl:s.data.toList.length=s.size:=(size_data s).symm
 have HSL:=Lib.hid hsl
 clear hsl
 go_enter Tryz.func206,Tryz.ntmps206
 go_wp2
 go_loopw [7,20] (fun av i wr=>∃ k a:Nat,k≤2∧i=.int .i64 k∧av=.int .i64 a∧HL s.data.toList w k a wr) (fun _ i _=>2 - (intOf i).toNat)
 case atStart=>exact ⟨0,0,by omega,rfl,rfl,.inl ⟨rfl,rfl,HD.start w⟩⟩
 case round =>
   obtain ⟨k,a,hk,rfl,rfl,hh⟩:=hrel
   have HM:Hid ((s.extract a s.size).size≤maxLen):=Lib.hid (show (s.extract a s.size).size≤maxLen by rw [ByteArray.size_extract];unfold maxLen;omega)
   have HE:=Lib.hid (ext_dropV s a)
   have d3:(0:Int)≤(a:Int):=by omega
   rcases hh with ⟨rfl,ha,hd⟩ | ⟨rfl,g,hg,hal,hd⟩ | ⟨rfl,g,j,c,i,ha,hji,hg2,hc2,hg,hc,hd⟩
   · have HDD:=Lib.hid hd
     obtain ⟨c0,c1,y0,y1⟩:=hd.cells
     have hz:=hd.lt
     have HA:=Lib.hid ha
     have d4:(a:Int)≤(s.size:Int):=by omega
     clear hd ha
     rcases intL_cases s.data.toList 200 with ⟨e,hi,he,_⟩ | ⟨n,j,hi,hn,hj1,hj2,hj3,_⟩
     · have HI:Hid (intL (s.extract a s.size).data.toList 200=(0,0,e)):=Lib.hid (show intL (s.extract a s.size).data.toList 200=(0,0,e) by rw [HE.out,HA.out];exact hi)
       have HR:=Lib.hid (getR_gap (used:=0) (least:=least) (acc:=[]) hi he)
       have HNE:=Lib.hid he
       clear hi he
       go_wp2_with fail
       refine (vint_bad _ 200 _ HM.out (by decide) (by decide) e HI.out HNE.out).mono ?_
       rintro r w' ⟨rfl,rfl⟩
       go_wp2
       go_ret3
       exact vget_bad HR.out _ HDD.out.2
     · have HI:Hid (intL (s.extract a s.size).data.toList 200=(n,j,0)):=Lib.hid (show intL (s.extract a s.size).data.toList 200=(n,j,0) by rw [HE.out,HA.out];exact hi)
       have HI2:=Lib.hid hi
       have hj4:j≤s.size:=by rw [←HSL.out];exact hj3
       have HJ3:=Lib.hid hj3
       have eaj:(a:Int) + (j:Int)=(j:Int):=by have:=HA.out;omega
       clear hi hj3
       go_wp2_with fail
       refine (vint_ok _ 200 _ HM.out (by decide) (by decide) n j HI.out).mono ?_
       rintro r w' ⟨rfl,rfl⟩
       go_wp2
       go_roundw
       case rel=>exact ⟨1,j,by omega,rfl,rfl,.inr (.inl ⟨rfl,n,HI2.out,HJ3.out,HDD.out.set0 _⟩)⟩
       case measure=>simp [intOf]
   · have HDD:=Lib.hid hd
     obtain ⟨c0,c1,y0,y1⟩:=hd.cells
     have hz:=hd.lt
     have HG:=Lib.hid hg
     have hg2:(g:Int)≤200:=by
       rcases intL_cases s.data.toList 200 with ⟨e,hi,he,_⟩ | ⟨n,j,hi,hn,_⟩
       · rw [hg] at hi;simp only [Prod.mk.injEq] at hi;exact absurd hi.2.2.symm he
       · rw [hg] at hi;simp only [Prod.mk.injEq] at hi;omega
     have has:a≤s.size:=by rw [←HSL.out];exact hal
     have d4:(a:Int)≤(s.size:Int):=by omega
     clear hd hg hal
     rcases intL_cases (s.data.toList.drop a) 16 with ⟨e,hi,he,_⟩ | ⟨n,j,hi,hn,hj1,hj2,hj3,_⟩
     · have HI:Hid (intL (s.extract a s.size).data.toList 16=(0,0,e)):=Lib.hid (show intL (s.extract a s.size).data.toList 16=(0,0,e) by rw [HE.out];exact hi)
       have HR:=Lib.hid (getR_many (used:=0) (least:=least) (acc:=[]) HG.out hi he)
       have HNE:=Lib.hid he
       clear hi he
       go_wp2_with fail
       refine (vint_bad _ 16 _ HM.out (by decide) (by decide) e HI.out HNE.out).mono ?_
       rintro r w' ⟨rfl,rfl⟩
       go_wp2
       go_ret3
       exact vget_bad HR.out _ HDD.out.2
     · have HI:Hid (intL (s.extract a s.size).data.toList 16=(n,j,0)):=Lib.hid (show intL (s.extract a s.size).data.toList 16=(n,j,0) by rw [HE.out];exact hi)
       have HI2:=Lib.hid hi
       rw [List.length_drop,HSL.out] at hj3
       have HJ3:Hid (a + j≤s.data.toList.length):=Lib.hid (show a + j≤s.data.toList.length by rw [HSL.out];omega)
       have hn16:n≤16:=by omega
       have hg200:g≤200:=by omega
       clear hi
       go_wp2_with fail
       refine (vint_ok _ 16 _ HM.out (by decide) (by decide) n j HI.out).mono ?_
       rintro r w' ⟨rfl,rfl⟩
       go_wp2
       go_roundw
       case rel=>exact ⟨2,a + j,by omega,rfl,by go_num,.inr (.inr ⟨rfl,g,a,n,j,rfl,HJ3.out,hg200,hn16,HG.out,HI2.out,HDD.out.set1 _⟩)⟩
       case measure=>simp [intOf]
   · have HDD:=Lib.hid hd
     obtain ⟨c0,c1,y0,y1⟩:=hd.cells
     have HR:=Lib.hid (getR_ok (used:=0) (least:=least) (acc:=[]) hg hc)
     have HA:=Lib.hid ha
     have has:a≤s.size:=by rw [←HSL.out,ha];exact hji
     have HST:Hid (getR s.data.toList 0 least []=tmA (c + 1) (s.data.toList.drop a) a (least + g) []):=Lib.hid (show getR s.data.toList 0 least []=tmA (c + 1) (s.data.toList.drop a) a (least + g) [] by
       rw [HR.out,ha,List.drop_drop,Nat.zero_add])
     have eg:0≤least + (g:Int):=by omega
     have eg2:least + (g:Int)≤1000200:=by omega
     have hz:=hd.lt
     clear hd ha hg hc hji
     rw [show ((2:Nat):Int)=2 from rfl]
     go_wp2
     go_loopw [7,14,46] (fun av rv i wr=>∃ (m b:Nat) (acc:List Ent),m≤c + 1∧i=.int .i64 m∧av=.int .i64 b∧b≤s.size∧acc.length=m∧getR s.data.toList 0 least []=tmA (c + 1 - m) (s.data.toList.drop b) b (least + g + m) acc∧ownsE wr (w.heap.size + 1) rv acc∧HD w wr g c) (fun _ _ i _=>c + 1 - (intOf i).toNat)
     case atStart=>exact ⟨0,a,[],by omega,rfl,rfl,has,rfl,by simpa using HST.out,ownsE_nil _ _,HDD.out⟩
     case round =>
       obtain ⟨m,b,acc,hm,rfl,rfl,hbs,hal,heq,ho,hd⟩:=hrel
       have HEQ:=Lib.hid heq
       have HO:=Lib.hid ho
       have HDJ:=Lib.hid hd
       have HAL:=Lib.hid hal
       obtain ⟨z0,z1,_,_⟩:=hd.cells
       have hz2:=hd.lt
       have HMB:Hid ((s.extract b s.size).size≤maxLen):=Lib.hid (show (s.extract b s.size).size≤maxLen by rw [ByteArray.size_extract];unfold maxLen;omega)
       have HEB:=Lib.hid (ext_dropV s b)
       have e3:(0:Int)≤(b:Int):=by omega
       have e4:(b:Int)≤(s.size:Int):=by omega
       clear heq ho hd hal c0 c1 y0 y1
       by_cases hlt:m < c + 1
       · have hlt':(m:Int) < (c:Int) + 1:=by omega
         obtain ⟨c',hc'⟩:∃ c',c + 1 - m=c' + 1:=⟨c - m,by omega⟩
         rcases intL_cases (s.data.toList.drop b) 1099511627776 with ⟨e,hi,he,_⟩ | ⟨n,j,hi,hn,hj1,hj2,hj3,_⟩
         · have HI:Hid (intL (s.extract b s.size).data.toList 1099511627776=(0,0,e)):=Lib.hid (show intL (s.extract b s.size).data.toList 1099511627776=(0,0,e) by rw [HEB.out];exact hi)
           have HRB:Hid (getR s.data.toList 0 least []=.inl e):=Lib.hid (show getR s.data.toList 0 least []=.inl e by rw [HEQ.out,hc',tmA_bad hi he])
           have HNE:=Lib.hid he
           clear hi he hc'
           go_wp2_with fail
           refine (vint_bad _ 1099511627776 _ HMB.out (by decide) (by decide) e HI.out HNE.out).mono ?_
           rintro r w' ⟨rfl,rfl⟩
           go_wp2
           go_ret3
           exact vget_bad HRB.out _ HDJ.out.2
         · have HI:Hid (intL (s.extract b s.size).data.toList 1099511627776=(n,j,0)):=Lib.hid (show intL (s.extract b s.size).data.toList 1099511627776=(n,j,0) by rw [HEB.out];exact hi)
           have HRB:Hid (getR s.data.toList 0 least []=tmA (c + 1 - (m + 1)) (s.data.toList.drop (b + j)) (b + j) (least + g + ((m + 1:Nat):Int)) (acc ++ [⟨least + g + m,n⟩])):=Lib.hid (show getR s.data.toList 0 least []=tmA (c + 1 - (m + 1)) (s.data.toList.drop (b + j)) (b + j) (least + g + ((m + 1:Nat):Int)) (acc ++ [⟨least + g + m,n⟩]) by
             rw [HEQ.out,hc',tmA_ok hi,List.drop_drop,show c + 1 - (m + 1)=c' by omega]
             congr 1;omega)
           rw [List.length_drop,HSL.out] at hj3
           obtain ⟨y,hy⟩:∃ y,y=least + (g:Int) + (m:Int):=⟨_,rfl⟩
           rw [←hy] at HRB
           have hyb:0≤y∧y≤1000300:=by omega
           have ey:least + (g:Int) + (m:Int)=y:=hy.symm
           obtain ⟨acc2,hacc⟩:∃ acc2,acc ++ [(⟨y,(n:Int)⟩:Ent)]=acc2:=⟨_,rfl⟩
           have HAC:=Lib.hid hacc
           rw [hacc] at HRB
           have HAL2:Hid (acc2.length=m + 1):=Lib.hid (show acc2.length=m + 1 by rw [←hacc,List.length_append,HAL.out];rfl)
           clear hi hc' hy hacc
           go_wp2_with fail
           refine (vint_ok _ 1099511627776 _ HMB.out (by decide) (by decide) n j HI.out).mono ?_
           rintro r w' ⟨rfl,rfl⟩
           go_wp2_with (at_builtin;refine wpList_append_ent rfl _ _ rfl (w.heap.size + 1) _ acc rfl (HO.out.alloc _) _ 1 rfl ⟨y,n⟩ ?c1 ?c2 ?c3 ?_)
           case c1=>exact entBlk_new _ _ _
           case c2=>have:=HAL.out;omega
           case c3=>simp;omega
           · intro gg cap w3 ho3 hg3
             rw [HAC.out,HAL.out] at ho3
             have HO3:=Lib.hid ho3
             have HD3:Hid (HD w w3 g c):=Lib.hid (show HD w w3 g c from ⟨by
               rw [hg3.block _ (by simp;omega) (fun e=>by have:=(HO.out.lt w.heap.size e.symm).1;omega),Below.heap_alloc _ _ _ hz2]
               exact HDJ.out.1,(HDJ.out.2.alloc (Nat.le_of_lt hz2) _).grown hg3 (by simp;omega) (fun k hk=>by have:=(HO.out.lt k hk).1;omega)⟩)
             clear ho3 hg3
             have hal3:=HAL.out
             rw [hal3]
             clear hal3
             go_wp2
             go_roundw
             case rel=>exact ⟨m + 1,b + j,acc2,by omega,by go_num,by go_num,by omega,HAL2.out,HRB.out,HO3.out,HD3.out⟩
             case measure=>simp [intOf];omega
       · have hme:m=c + 1:=by omega
         have HRE:Hid (getR s.data.toList 0 least []=.inr (acc,b)):=Lib.hid (show getR s.data.toList 0 least []=.inr (acc,b) by
           rw [HEQ.out,hme,Nat.sub_self];rfl)
         have hlt':(c:Int) + 1≤(m:Int):=by omega
         clear hme
         go_wp2
         go_ret3
         exact vget_good HRE.out _ _ (HO.out.mono (Nat.le_succ _)) HDJ.out.2
end Go.Proofs.YtjkbmfpomgcblaaGreatDoor
namespace Go.Proofs.YtjkbmfpomgcblaaGreatDoor
open Go.RowKit
theorem baref_any (n:Int) (w:World):Calls Tryz.prog 71 #[.int .i64 n] w fun e w'=>e=.returned (.agg #[.int .i64 n,.int .i64 (-1)])∧Below w.heap.size w w':=by
 go_enter Tryz.func71,Tryz.ntmps71
 go_wp2
 refine bodyPost_ret (v:=.agg #[.int .i64 n,.int .i64 (-1)]) (by simp [results,Tryz.results71,go_sem]) rfl ?_
 exact ⟨rfl,(Below.refl _ _).alloc (Nat.le_refl _) _⟩
theorem faultV_is {r:Nat×Int} {e:Nat} {pl:Int} (h:r=(e,pl)):faultV r=.agg #[.int .i64 (e:Int),.int .i64 pl]:=by rw [h];rfl
set_option maxRecDepth 100000 in
set_option maxHeartbeats 4000000 in
theorem rvright_any (v:Value) (l:List Ent) (w:World) (hv:IsEnts w v l) (hl:l.length≤9223372036854775807) :
   Calls Tryz.prog 112 #[v] w fun e w'=>e=.returned (faultV (vrightF l))∧Below w.heap.size w w':=by
 obtain ⟨a1,c1,rfl,f1⟩:=hv.form
 have F1:=Lib.hid f1
 obtain ⟨n,hn⟩:∃ n,n=l.length:=⟨_,rfl⟩
 rw [←hn] at hl ⊢
 have HN:=Lib.hid hn
 clear hv f1 hn
 by_cases h16:16 < n
 · have HW:Hid (faultV (vrightF l)=.agg #[.int .i64 4,.int .i64 (-1)]):=Lib.hid (faultV_is (show vrightF l=(4,-1) by unfold vrightF;rw [if_pos (by rw [←HN.out];exact h16)]))
   have h2:16 < (n:Int):=by omega
   rw [HW.out]
   go_enter Tryz.func112,Tryz.ntmps112
   go_wp2_with fail
   refine (baref_any 4 _).mono ?_
   rintro r w1 ⟨rfl,hb1⟩
   have hz1:=hb1.size
   rw [World.size_alloc] at hz1
   have d0:w1.cell? ⟨w.heap.size,0,none⟩=some (.int .i64 0):=(hb1.cell (by simp)).trans (by simp)
   have d1:w1.cell? ⟨w.heap.size,1,none⟩=some (.int .i64 0):=(hb1.cell (by simp)).trans (by simp)
   have g0:w1.frozen? ⟨w.heap.size,0,none⟩=false:=(hb1.frozen (by simp)).trans (by simp)
   have g1:w1.frozen? ⟨w.heap.size,1,none⟩=false:=(hb1.frozen (by simp)).trans (by simp)
   have HB1:Hid (Below w.heap.size w w1):=((Below.refl _ _).alloc (Nat.le_refl _) _).trans (hb1.mono (by simp))
   clear hb1
   go_wp2
   refine bodyPost_ret (v:=.agg #[.int .i64 4,.int .i64 (-1)]) (by simp [results,Tryz.results112,go_sem,d0,d1]) rfl ?_
   exact ⟨rfl,(HB1.out.setCell (Nat.le_refl _) _).setCell (Nat.le_refl _) _⟩
 · have hvr:vrightF l=vr l 0 (-1):=by unfold vrightF;rw [if_neg (by rw [←HN.out];exact h16)]
   rw [hvr]
   clear hvr
   go_enter Tryz.func112,Tryz.ntmps112
   go_wp2
   go_loopw [3,12] (fun s i wr=>∃ (k:Nat) (last:Int),k≤n∧i=.int .i64 k∧s=.int .i64 last∧vr l 0 (-1)=vr (l.drop k) k last∧Below (w.heap.size + 1) (w.alloc (.cells #[.int .i64 0,.int .i64 0] 46)) wr) (fun _ i _=>n - (intOf i).toNat)
   case atStart=>exact ⟨0,-1,by omega,rfl,rfl,rfl,Below.refl _ _⟩
   case round =>
     obtain ⟨k,last,hk,rfl,rfl,heq,hbel⟩:=hrel
     have HEQ:=Lib.hid heq
     have HB:=Lib.hid hbel
     have x0:wr.cell? ⟨w.heap.size,0,none⟩=some (.int .i64 0):=(hbel.cell (by exact Nat.lt_succ_self _)).trans (by simp)
     have x1:wr.cell? ⟨w.heap.size,1,none⟩=some (.int .i64 0):=(hbel.cell (by exact Nat.lt_succ_self _)).trans (by simp)
     have y0:wr.frozen? ⟨w.heap.size,0,none⟩=false:=(hbel.frozen (by exact Nat.lt_succ_self _)).trans (by simp)
     have y1:wr.frozen? ⟨w.heap.size,1,none⟩=false:=(hbel.frozen (by exact Nat.lt_succ_self _)).trans (by simp)
     have hzr:=hbel.size
     rw [World.size_alloc] at hzr
     have HB0:Hid (Below w.heap.size w wr):=((Below.refl _ _).alloc (Nat.le_refl _) _).trans (HB.out.mono (Nat.le_succ _))
     clear heq hbel
     by_cases hlt:k < n
     · have hkl:k < l.length:=by have:=HN.out;omega
       obtain ⟨t,ht⟩:∃ t,l[k]? = some t:=⟨l[k],List.getElem?_eq_getElem hkl⟩
       obtain ⟨b1,o1,rfl,hb1,p0,p1⟩:=F1.out k t ht
       have hd:l.drop k=t :: l.drop (k + 1):=by
         rw [List.drop_eq_getElem_cons hkl];congr 1
         rw [List.getElem?_eq_getElem hkl] at ht;exact Option.some.inj ht
       obtain ⟨rep,time⟩:=t
       simp only at p0 p1
       have q0:=(HB0.out.cell (p:=⟨b1,o1 + k * 2,none⟩) hb1).trans p0
       have q1:=(HB0.out.cell (p:=⟨b1,o1 + k * 2 + 1,none⟩) hb1).trans p1
       have HD:=Lib.hid hd
       have hlt0:w.heap.size < wr.heap.size:=by omega
       clear p0 p1 ht hd hkl
       by_cases hr:rep < 0∨200 < rep∨time < 1∨1099511627776 < time
       · have HW : Hid (faultV (vr l 0 (-1)) = .agg #[.int .i64 2, .int .i64 k]) := Lib.hid (faultV_is (show vr l 0 (-1) = (2, (k : Int)) by
           have hw:wrE ⟨rep,time⟩ last=2:=wrE_range hr
           rw [HEQ.out,HD.out,vr_bad (by rw [hw];decide),hw]))
         have HR:=Lib.hid hr
         clear hr HEQ
         by_cases h1:rep < 0∨200 < rep
         · rcases h1 with h1 | h1
           · go_wp2_with fail
             refine (within_low rep 0 200 _ h1).mono ?_
             rintro r w' ⟨rfl,rfl⟩
             go_wp2
             refine bodyPost_ret (v:=.agg #[.int .i64 2,.int .i64 k]) (by simp [results,Tryz.results112,go_sem,x0,x1,hlt0]) rfl ?_
             rw [HW.out]
             exact ⟨rfl,((HB0.out.setCell (Nat.le_refl _) _).setCell (Nat.le_refl _) _).alloc (by simp;omega) _⟩
           · go_wp2_with fail
             refine (within_high rep 0 200 _ (by omega) h1).mono ?_
             rintro r w' ⟨rfl,rfl⟩
             go_wp2
             refine bodyPost_ret (v:=.agg #[.int .i64 2,.int .i64 k]) (by simp [results,Tryz.results112,go_sem,x0,x1,hlt0]) rfl ?_
             rw [HW.out]
             exact ⟨rfl,((HB0.out.setCell (Nat.le_refl _) _).setCell (Nat.le_refl _) _).alloc (by simp;omega) _⟩
         · by_cases h2:time < 1
           · go_wp2_with fail
             refine (within_yes rep 0 200 _ (by omega) (by omega)).mono ?_
             rintro r w' ⟨rfl,rfl⟩
             go_wp2_with fail
             refine (within_low time 1 1099511627776 _ h2).mono ?_
             rintro r w' ⟨rfl,rfl⟩
             go_wp2
             refine bodyPost_ret (v:=.agg #[.int .i64 2,.int .i64 k]) (by simp [results,Tryz.results112,go_sem,x0,x1,hlt0]) rfl ?_
             rw [HW.out]
             exact ⟨rfl,((HB0.out.setCell (Nat.le_refl _) _).setCell (Nat.le_refl _) _).alloc (by simp;omega) _⟩
           · have h3:1099511627776 < time:=by have:=HR.out;omega
             go_wp2_with fail
             refine (within_yes rep 0 200 _ (by omega) (by omega)).mono ?_
             rintro r w' ⟨rfl,rfl⟩
             go_wp2_with fail
             refine (within_high time 1 1099511627776 _ (by omega) h3).mono ?_
             rintro r w' ⟨rfl,rfl⟩
             go_wp2
             refine bodyPost_ret (v:=.agg #[.int .i64 2,.int .i64 k]) (by simp [results,Tryz.results112,go_sem,x0,x1,hlt0]) rfl ?_
             rw [HW.out]
             exact ⟨rfl,((HB0.out.setCell (Nat.le_refl _) _).setCell (Nat.le_refl _) _).alloc (by simp;omega) _⟩
       · have g1:0≤rep:=by omega
         have g2:rep≤200:=by omega
         have g3:1≤time:=by omega
         have g4:time≤1099511627776:=by omega
         by_cases h5:rep≤last
         · have HW : Hid (faultV (vr l 0 (-1)) = .agg #[.int .i64 10, .int .i64 k]) := Lib.hid (faultV_is (show vr l 0 (-1) = (10, (k : Int)) by
             have hw:wrE ⟨rep,time⟩ last=10:=wrE_order hr h5
             rw [HEQ.out,HD.out,vr_bad (by rw [hw];decide),hw]))
           clear hr HEQ
           go_wp2_with fail
           refine (within_yes rep 0 200 _ g1 g2).mono ?_
           rintro r w' ⟨rfl,rfl⟩
           go_wp2_with fail
           refine (within_yes time 1 1099511627776 _ g3 g4).mono ?_
           rintro r w' ⟨rfl,rfl⟩
           go_wp2
           refine bodyPost_ret (v:=.agg #[.int .i64 10,.int .i64 k]) (by simp [results,Tryz.results112,go_sem,x0,x1,hlt0]) rfl ?_
           rw [HW.out]
           exact ⟨rfl,((HB0.out.setCell (Nat.le_refl _) _).setCell (Nat.le_refl _) _).alloc (by simp;omega) _⟩
         · have HW : Hid (vr l 0 (-1) = vr (l.drop (k + 1)) (k + 1) rep) := Lib.hid (show vr l 0 (-1) = vr (l.drop (k + 1)) (k + 1) rep by
             rw [HEQ.out,HD.out,vr_good (wrE_fine hr h5)])
           clear hr HEQ
           go_wp2_with fail
           refine (within_yes rep 0 200 _ g1 g2).mono ?_
           rintro r w' ⟨rfl,rfl⟩
           go_wp2_with fail
           refine (within_yes time 1 1099511627776 _ g3 g4).mono ?_
           rintro r w' ⟨rfl,rfl⟩
           go_wp2
           go_roundw
           case rel=>exact ⟨k + 1,rep,by omega,by go_num,rfl,HW.out,HB.out.alloc (by omega) _⟩
           case measure=>simp [intOf];omega
     · have HW:Hid (faultV (vr l 0 (-1))=.agg #[.int .i64 0,.int .i64 (-1)]):=Lib.hid (faultV_is (show vr l 0 (-1)=(0,-1) by rw [HEQ.out,List.drop_eq_nil_of_le (by have:=HN.out;omega)];rfl))
       have hlt0:w.heap.size < wr.heap.size:=by omega
       clear HEQ
       go_wp2_with fail
       refine (good_any _).mono ?_
       rintro r w1 ⟨rfl,hb1⟩
       have d0:w1.cell? ⟨w.heap.size,0,none⟩=some (.int .i64 0):=(hb1.cell hlt0).trans x0
       have d1:w1.cell? ⟨w.heap.size,1,none⟩=some (.int .i64 0):=(hb1.cell hlt0).trans x1
       have g0:w1.frozen? ⟨w.heap.size,0,none⟩=false:=(hb1.frozen hlt0).trans y0
       have g1:w1.frozen? ⟨w.heap.size,1,none⟩=false:=(hb1.frozen hlt0).trans y1
       have HBW:Hid (Below w.heap.size w w1):=HB0.out.trans (hb1.mono (Nat.le_of_lt hlt0))
       clear hb1 x0 x1 y0 y1
       go_wp2
       refine bodyPost_ret (v:=.agg #[.int .i64 0,.int .i64 (-1)]) (by simp [results,Tryz.results112,go_sem,d0,d1]) rfl ?_
       rw [HW.out]
       exact ⟨rfl,(HBW.out.setCell (Nat.le_refl _) _).setCell (Nat.le_refl _) _⟩
end Go.Proofs.YtjkbmfpomgcblaaGreatDoor
namespace Go.Proofs.YtjkbmfpomgcblaaGreatDoor
open Go.RowKit
def tailL (x:Wr):List UInt8:=(tailB x.kind x.value x.n).data.toList
def placeF (h:List Ent) (r:Int):Nat:=h.findIdx (fun e=>decide (e.rep=r))
def textsB (T:List ByteArray):List UInt8:=T.flatMap fun k=>spanL k.data.toList
def oneB (h:List Ent) (ahead:Int) (x:Wr) (n:Nat):List UInt8 :=
 [UInt8.ofNat x.kind.toNat] ++ putL (x.time - ahead).toNat ++ putL (placeF h x.rep) ++ putL n ++ tailL x
def rowB (h:List Ent):Int→List Wr→List Nat→List UInt8
 | _,[],_=>[]
 | _,_ :: _,[]=>[]
 | ahead,x :: r,n :: N=>oneB h ahead x n ++ rowB h x.time r N
theorem textsB_cons (k:ByteArray) (T:List ByteArray):textsB (k :: T)=spanL k.data.toList ++ textsB T:=by simp [textsB]
theorem rowB_cons (h:List Ent) (ahead:Int) (x:Wr) (r:List Wr) (n:Nat) (N:List Nat):rowB h ahead (x :: r) (n :: N)=oneB h ahead x n ++ rowB h x.time r N:=rfl
def kindF:List UInt8→Nat×Nat×Nat
 | []=>(0,0,7)
 | c :: _=>if c.toNat < 1∨4 < c.toNat then (0,0,1) else (c.toNat,1,0)
def unT (s:List UInt8):Nat→Nat→List ByteArray→(Nat×Nat) ⊕ (Nat×List ByteArray)
 | 0,a,T=>.inr (a,T)
 | k + 1,a,T=>if (getS (s.drop a)).2.2≠0 then .inl ((getS (s.drop a)).2.2,a) else unT s k (a + (getS (s.drop a)).2.1) (T ++ [⟨(getS (s.drop a)).1.toArray⟩])
theorem unT_bad {s t:List UInt8} {k a n e:Nat} {T:List ByteArray} (h:getS (s.drop a)=(t,n,e)) (he:e≠0):unT s (k + 1) a T=.inl (e,a):=by unfold unT;rw [h,if_pos he]
theorem unT_ok {s t:List UInt8} {k a n:Nat} {T:List ByteArray} (h:getS (s.drop a)=(t,n,0)):unT s (k + 1) a T=unT s k (a + n) (T ++ [⟨t.toArray⟩]):=by rw [unT,h,if_neg (by simp)]
def fillN (K:Int) (l:List UInt8):Nat:=(getN K l).2.1 + (getV K (l.drop (getN K l).2.1)).2.1
def fillV (K:Int) (l:List UInt8):ByteArray:=⟨(getV K (l.drop (getN K l).2.1)).1.toArray⟩
def unOne (s:List UInt8) (h:List Ent) (T:List ByteArray) (a:Nat) (ahead:Int):(Nat×Nat) ⊕ (Nat×Wr×Nat) :=
 match kindF (s.drop a) with
 | (K,_,e)=>if e≠0 then .inl (e,a) else
   match intL (s.drop (a + 1)) (1099511627776 - ahead) with
   | (t,k1,e)=>if e≠0 then .inl (e,a + 1) else
     match intL (s.drop (a + 1 + k1)) ((h.length:Int) - 1) with
     | (p,k2,e)=>if e≠0 then .inl (e,a + 1 + k1) else
       match intL (s.drop (a + 1 + k1 + k2)) ((T.length:Int) - 1) with
       | (n,k3,e)=>if e≠0 then .inl (e,a + 1 + k1 + k2) else
         if fillE (ahead + t) (h.getD p ⟨0,0⟩).rep K (T.getD n ⟨#[]⟩) (s.drop (a + 1 + k1 + k2 + k3))≠0 then .inl (fillE (ahead + t) (h.getD p ⟨0,0⟩).rep K (T.getD n ⟨#[]⟩) (s.drop (a + 1 + k1 + k2 + k3)),a + 1 + k1 + k2 + k3)
         else .inr (a + 1 + k1 + k2 + k3 + fillN K (s.drop (a + 1 + k1 + k2 + k3)),⟨ahead + t,(h.getD p ⟨0,0⟩).rep,K,T.getD n ⟨#[]⟩,fillV K (s.drop (a + 1 + k1 + k2 + k3)),(getN K (s.drop (a + 1 + k1 + k2 + k3))).1⟩,n)
section
variable {s:List UInt8} {h:List Ent} {T:List ByteArray} {a:Nat} {ahead:Int} {K j t k1 p k2 n k3 e:Nat}
theorem unOne_kind (h0:kindF (s.drop a)=(K,j,e)) (he:e≠0):unOne s h T a ahead=.inl (e,a):=by unfold unOne;rw [h0];simp only;rw [if_pos he]
theorem unOne_time (h0:kindF (s.drop a)=(K,j,0)) (h1:intL (s.drop (a + 1)) (1099511627776 - ahead)=(t,k1,e)) (he:e≠0):unOne s h T a ahead=.inl (e,a + 1):=by
 unfold unOne;rw [h0];simp only;rw [if_neg (by simp),h1];simp only;rw [if_pos he]
theorem unOne_rep (h0:kindF (s.drop a)=(K,j,0)) (h1:intL (s.drop (a + 1)) (1099511627776 - ahead)=(t,k1,0)) (h2:intL (s.drop (a + 1 + k1)) ((h.length:Int) - 1)=(p,k2,e)) (he:e≠0):unOne s h T a ahead=.inl (e,a + 1 + k1):=by
 unfold unOne;rw [h0];simp only;rw [if_neg (by simp),h1];simp only;rw [if_neg (by simp),h2];simp only;rw [if_pos he]
theorem unOne_key (h0:kindF (s.drop a)=(K,j,0)) (h1:intL (s.drop (a + 1)) (1099511627776 - ahead)=(t,k1,0)) (h2:intL (s.drop (a + 1 + k1)) ((h.length:Int) - 1)=(p,k2,0))
   (h3:intL (s.drop (a + 1 + k1 + k2)) ((T.length:Int) - 1)=(n,k3,e)) (he:e≠0):unOne s h T a ahead=.inl (e,a + 1 + k1 + k2):=by
 unfold unOne;rw [h0];simp only;rw [if_neg (by simp),h1];simp only;rw [if_neg (by simp),h2];simp only;rw [if_neg (by simp),h3];simp only;rw [if_pos he]
theorem unOne_fill (h0:kindF (s.drop a)=(K,j,0)) (h1:intL (s.drop (a + 1)) (1099511627776 - ahead)=(t,k1,0)) (h2:intL (s.drop (a + 1 + k1)) ((h.length:Int) - 1)=(p,k2,0))
   (h3:intL (s.drop (a + 1 + k1 + k2)) ((T.length:Int) - 1)=(n,k3,0)) (h4:fillE (ahead + t) (h.getD p ⟨0,0⟩).rep K (T.getD n ⟨#[]⟩) (s.drop (a + 1 + k1 + k2 + k3))=e) (he:e≠0):unOne s h T a ahead=.inl (e,a + 1 + k1 + k2 + k3):=by
 unfold unOne;rw [h0];simp only;rw [if_neg (by simp),h1];simp only;rw [if_neg (by simp),h2];simp only;rw [if_neg (by simp),h3];simp only;rw [if_neg (by simp),if_pos (by rw [h4];exact he),h4]
theorem unOne_ok (h0:kindF (s.drop a)=(K,j,0)) (h1:intL (s.drop (a + 1)) (1099511627776 - ahead)=(t,k1,0)) (h2:intL (s.drop (a + 1 + k1)) ((h.length:Int) - 1)=(p,k2,0))
   (h3:intL (s.drop (a + 1 + k1 + k2)) ((T.length:Int) - 1)=(n,k3,0)) (h4:fillE (ahead + t) (h.getD p ⟨0,0⟩).rep K (T.getD n ⟨#[]⟩) (s.drop (a + 1 + k1 + k2 + k3))=0) :
   unOne s h T a ahead=.inr (a + 1 + k1 + k2 + k3 + fillN K (s.drop (a + 1 + k1 + k2 + k3)),⟨ahead + t,(h.getD p ⟨0,0⟩).rep,K,T.getD n ⟨#[]⟩,fillV K (s.drop (a + 1 + k1 + k2 + k3)),(getN K (s.drop (a + 1 + k1 + k2 + k3))).1⟩,n):=by
 unfold unOne;rw [h0];simp only;rw [if_neg (by simp),h1];simp only;rw [if_neg (by simp),h2];simp only;rw [if_neg (by simp),h3];simp only;rw [if_neg (by simp),if_neg (by rw [h4];simp)]
end
def unW (s:List UInt8) (h:List Ent) (T:List ByteArray):Nat→Nat→Int→List Wr→List Nat→(Nat×Nat) ⊕ (Nat×List Wr×List Nat)
 | 0,a,_,W,N=>.inr (a,W,N)
 | k + 1,a,ahead,W,N=>match unOne s h T a ahead with
   | .inl r=>.inl r
   | .inr (b,x,n)=>unW s h T k b x.time (W ++ [x]) (N ++ [n])
theorem unW_bad {s:List UInt8} {h:List Ent} {T:List ByteArray} {k a:Nat} {ahead:Int} {W:List Wr} {N:List Nat} {r:Nat×Nat} (h0:unOne s h T a ahead=.inl r):unW s h T (k + 1) a ahead W N=.inl r:=by rw [unW,h0]
theorem unW_ok {s:List UInt8} {h:List Ent} {T:List ByteArray} {k a b n:Nat} {ahead:Int} {W:List Wr} {N:List Nat} {x:Wr} (h0:unOne s h T a ahead=.inr (b,x,n)):unW s h T (k + 1) a ahead W N=unW s h T k b x.time (W ++ [x]) (N ++ [n]):=by rw [unW,h0]
def unbF (s:List UInt8):(Nat×Int) ⊕ (List Ent×List Ent×List Wr) :=
 if 20000 < s.length then .inl (4,-1) else
 match vreadF s with
 | (e,n,f)=>if e≠0 then .inl (e,0) else
   match vreadF (s.drop n) with
   | (e,m,h)=>if e≠0 then .inl (e,(n:Int)) else
     match intL (s.drop (n + m)) 60 with
     | (k,j,e)=>if e≠0 then .inl (e,((n + m:Nat):Int)) else
       match unT s k (n + m + j) [] with
       | .inl (e,p)=>.inl (e,(p:Int))
       | .inr (b,T)=>match intL (s.drop b) 60 with
         | (k2,j2,e)=>if e≠0 then .inl (e,(b:Int)) else
           match unW s h T k2 (b + j2) 0 [] [] with
           | .inl (e,p)=>.inl (e,(p:Int))
           | .inr (c,W,N)=>if c < s.length then .inl (3,(c:Int))
             else if (listF T (N.map Int.ofNat)).2.1≠0 then .inl ((listF T (N.map Int.ofNat)).2.1,(s.length:Int))
             else if (batF f h W).1≠0 then .inl ((batF f h W).1,(s.length:Int))
             else .inr (f,h,W)
section
variable {s:List UInt8} {f h:List Ent} {T:List ByteArray} {W:List Wr} {N:List Nat} {n m k j b k2 j2 c e p:Nat}
theorem unb_long (h0:20000 < s.length):unbF s=.inl (4,-1):=by unfold unbF;rw [if_pos h0]
theorem unb_from (h0:¬ 20000 < s.length) (h1:vreadF s=(e,n,f)) (he:e≠0):unbF s=.inl (e,0):=by unfold unbF;rw [if_neg h0,h1];simp only;rw [if_pos he]
theorem unb_have (h0:¬ 20000 < s.length) (h1:vreadF s=(0,n,f)) (h2:vreadF (s.drop n)=(e,m,h)) (he:e≠0):unbF s=.inl (e,(n:Int)):=by
 unfold unbF;rw [if_neg h0,h1];simp only;rw [if_neg (by simp),h2];simp only;rw [if_pos he]
theorem unb_texts (h0:¬ 20000 < s.length) (h1:vreadF s=(0,n,f)) (h2:vreadF (s.drop n)=(0,m,h)) (h3:intL (s.drop (n + m)) 60=(k,j,e)) (he:e≠0):unbF s=.inl (e,((n + m:Nat):Int)):=by
 unfold unbF;rw [if_neg h0,h1];simp only;rw [if_neg (by simp),h2];simp only;rw [if_neg (by simp),h3];simp only;rw [if_pos he]
theorem unb_text (h0:¬ 20000 < s.length) (h1:vreadF s=(0,n,f)) (h2:vreadF (s.drop n)=(0,m,h)) (h3:intL (s.drop (n + m)) 60=(k,j,0)) (h4:unT s k (n + m + j) []=.inl (e,p)):unbF s=.inl (e,(p:Int)):=by
 unfold unbF;rw [if_neg h0,h1];simp only;rw [if_neg (by simp),h2];simp only;rw [if_neg (by simp),h3];simp only;rw [if_neg (by simp),h4]
theorem unb_writes (h0:¬ 20000 < s.length) (h1:vreadF s=(0,n,f)) (h2:vreadF (s.drop n)=(0,m,h)) (h3:intL (s.drop (n + m)) 60=(k,j,0)) (h4:unT s k (n + m + j) []=.inr (b,T)) (h5:intL (s.drop b) 60=(k2,j2,e)) (he:e≠0):unbF s=.inl (e,(b:Int)):=by
 unfold unbF;rw [if_neg h0,h1];simp only;rw [if_neg (by simp),h2];simp only;rw [if_neg (by simp),h3];simp only;rw [if_neg (by simp),h4];simp only;rw [h5];simp only;rw [if_pos he]
theorem unb_write (h0:¬ 20000 < s.length) (h1:vreadF s=(0,n,f)) (h2:vreadF (s.drop n)=(0,m,h)) (h3:intL (s.drop (n + m)) 60=(k,j,0)) (h4:unT s k (n + m + j) []=.inr (b,T)) (h5:intL (s.drop b) 60=(k2,j2,0)) (h6:unW s h T k2 (b + j2) 0 [] []=.inl (e,p)):unbF s=.inl (e,(p:Int)):=by
 unfold unbF;rw [if_neg h0,h1];simp only;rw [if_neg (by simp),h2];simp only;rw [if_neg (by simp),h3];simp only;rw [if_neg (by simp),h4];simp only;rw [h5];simp only;rw [if_neg (by simp),h6]
theorem unb_rest (h0:¬ 20000 < s.length) (h1:vreadF s=(0,n,f)) (h2:vreadF (s.drop n)=(0,m,h)) (h3:intL (s.drop (n + m)) 60=(k,j,0)) (h4:unT s k (n + m + j) []=.inr (b,T)) (h5:intL (s.drop b) 60=(k2,j2,0)) (h6:unW s h T k2 (b + j2) 0 [] []=.inr (c,W,N)) :
   unbF s=if c < s.length then .inl (3,(c:Int)) else if (listF T (N.map Int.ofNat)).2.1≠0 then .inl ((listF T (N.map Int.ofNat)).2.1,(s.length:Int)) else if (batF f h W).1≠0 then .inl ((batF f h W).1,(s.length:Int)) else .inr (f,h,W):=by
 unfold unbF;rw [if_neg h0,h1];simp only;rw [if_neg (by simp),h2];simp only;rw [if_neg (by simp),h3];simp only;rw [if_neg (by simp),h4];simp only;rw [h5];simp only;rw [if_neg (by simp),h6]
end
end Go.Proofs.YtjkbmfpomgcblaaGreatDoor
