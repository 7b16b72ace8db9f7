import Derived.Test.YtifbebhgeheooaaGreatDoorKl12
import Derived.Laws.NewBlocks
import Derived.Laws.CopyOwn
namespace Go.Proofs.YtifbebhgeheooaaGreatDoor
open Go.RowKit
def cAt (l:List Wr) (x:Int×Int) (k:Nat):Int:=(l[k]?.map fun y=>cI x (wid y)).getD 0
theorem cAt_is {l:List Wr} {x:Int×Int} {k:Nat} {y:Wr} (h:l[k]? = some y):cAt l x k=cI x (wid y):=by unfold cAt;rw [h];rfl
theorem keep5 {w w':World} {a b c d e:Addr} {x y z u v:Value} (hb:Below w.heap.size w w') (h:w.cell? a=some x∧w.cell? b=some y∧w.cell? c=some z∧w.cell? d=some u∧w.cell? e=some v) :
   w'.cell? a=some x∧w'.cell? b=some y∧w'.cell? c=some z∧w'.cell? d=some u∧w'.cell? e=some v :=
 ⟨(hb.cell (lt_of_cell h.1)).trans h.1,(hb.cell (lt_of_cell h.2.1)).trans h.2.1,(hb.cell (lt_of_cell h.2.2.1)).trans h.2.2.1,(hb.cell (lt_of_cell h.2.2.2.1)).trans h.2.2.2.1,(hb.cell (lt_of_cell h.2.2.2.2)).trans h.2.2.2.2⟩
set_option maxRecDepth 100000 in
set_option maxHeartbeats 4000000 in
theorem place1_any (v:Value) (l:List Wr) (x1 x2:Int) (i:Nat) (B2 B3:Nat) (w:World) (hv:IsWrs w v l) (hi:i < l.length) (h2:w.heap[B2]? = some (.cells #[v] 36 (0,0))) (h3:w.heap[B3]? = some (.cells #[.int .i64 x1,.int .i64 x2] 23 (0,0))) :
   Calls Tryz.prog 114 #[.int .i64 (i:Int),.pointer (some ⟨B3,0,none⟩),.pointer (some ⟨B2,0,none⟩)] w fun e w'=>e=.returned (.int .i64 (cAt l (x1,x2) i))∧Below w.heap.size w w':=by
 obtain ⟨a,c,rfl,hf⟩:=hv.form
 obtain ⟨y,hy⟩:∃ y,l[i]? = some y:=⟨l[i],List.getElem?_eq_getElem _⟩
 obtain ⟨b,off,rfl,hbl,c0,c1,_⟩:=hf i y hy
 have HC:Hid (cI (x1,x2) (y.time,y.rep)=cAt l (x1,x2) i):=Lib.hid (cAt_is hy).symm
 obtain ⟨z,hz⟩:∃ z,z=cAt l (x1,x2) i:=⟨_,rfl⟩
 rw [←hz] at HC ⊢
 obtain ⟨n,hn⟩:∃ n,n=l.length:=⟨_,rfl⟩
 rw [←hn] at hi h2
 have p2:w.cell? ⟨B2,0,none⟩=some (.slice (some ⟨b,off,none⟩) n c):=cell_of_row _ _ 0 _ _ _ h2
 have p3:w.cell? ⟨B3,0,none⟩=some (.int .i64 x1):=cell_of_row _ _ 0 _ _ _ h3
 have p4:w.cell? ⟨B3,1,none⟩=some (.int .i64 x2):=cell_of_row _ _ 1 _ _ _ h3
 have hii:(i:Int) < (n:Int):=by omega
 have k0:w.drew.cell? ⟨B2,0,none⟩=some (.slice (some ⟨b,off,none⟩) n c)∧w.drew.cell? ⟨B3,0,none⟩=some (.int .i64 x1)∧w.drew.cell? ⟨B3,1,none⟩=some (.int .i64 x2)∧w.drew.cell? ⟨b,off + i * 6,none⟩=some (.int .i64 y.time)∧w.drew.cell? ⟨b,off + i * 6 + 1,none⟩=some (.int .i64 y.rep):=⟨p2,p3,p4,c0,c1⟩
 obtain ⟨T,R,_,_,_,_⟩:=y
 simp only at c0 c1 k0 HC
 clear hv hf hz hn h2 h3 hy
 go_enter Tryz.func114,Tryz.ntmps114
 go_wp2
 go_region_held3 (fun w'=>w'.cell? ⟨B2,0,none⟩=some (.slice (some ⟨b,off,none⟩) n c)∧w'.cell? ⟨B3,0,none⟩=some (.int .i64 x1)∧w'.cell? ⟨B3,1,none⟩=some (.int .i64 x2)∧w'.cell? ⟨b,off + i * 6,none⟩=some (.int .i64 T)∧w'.cell? ⟨b,off + i * 6 + 1,none⟩=some (.int .i64 R)) (first | exact k0 | exact k1 | fail) (first
   | (go_at_call 60;((with_reducible refine (idcmp_as x1 x2 T R z w.drew HC.out).mono ?_);rintro r w1 ⟨rfl,hb1⟩;have HB1:=Lib.hid (undrew3 hb1);have k1:=keep5 hb1 k0;clear hb1))
   | fail)
 all_goals
   go_wp2
   go_ret
   exact ⟨rfl,HB1.out⟩
set_option maxRecDepth 100000 in
set_option maxHeartbeats 4000000 in
theorem find_any (v:Value) (l:List Wr) (x1 x2:Int) (n:Nat) (B2 B3:Nat) (w:World) (hv:IsWrs w v l) (hn:n=l.length) (hl:n≤1000000) (h2:w.heap[B2]? = some (.cells #[v] 36 (0,0))) (h3:w.heap[B3]? = some (.cells #[.int .i64 x1,.int .i64 x2] 23 (0,0)))
   (hm:∀ i j,i≤j→j < n→0 < cAt l (x1,x2) j→0 < cAt l (x1,x2) i) :
   Calls Tryz.prog 113 #[.int .i64 (n:Int),.func (.func 114) #[] #[.pointer (some ⟨B3,0,none⟩),.pointer (some ⟨B2,0,none⟩)]] w fun e w' =>
     ∃ p:Nat,p≤n∧(∀ k,k < p→0 < cAt l (x1,x2) k)∧(∀ k,p≤k→k < n→cAt l (x1,x2) k≤0)∧e=.returned (.tuple #[.int .i64 (p:Int),.bool (decide (p < n∧cAt l (x1,x2) p=0))])∧Below w.heap.size w w':=by
 obtain ⟨G,hG⟩:∃ G,G=cAt l (x1,x2):=⟨_,rfl⟩
 have HP:Hid (∀ i w',i < n→Below w.heap.size w w'→Calls Tryz.prog 114 #[.int .i64 (i:Int),.pointer (some ⟨B3,0,none⟩),.pointer (some ⟨B2,0,none⟩)] w' fun e w''=>e=.returned (.int .i64 (G i))∧Below w'.heap.size w' w''):=Lib.hid (fun i w' hi hb=>by
   rw [hG]
   exact place1_any v l x1 x2 i B2 B3 w' (hv.below hb) (by omega) ((hb.block B2 (Array.getElem?_eq_some_iff.1 h2).1).trans h2) ((hb.block B3 (Array.getElem?_eq_some_iff.1 h3).1).trans h3))
 rw [←hG] at hm ⊢
 have HM:=Lib.hid hm
 clear hG hm hv hn h2 h3
 go_enter Tryz.func113,Tryz.ntmps113
 go_wp2
 go_loopw [4,6] (fun i j wr=>∃ a b:Nat,a≤b∧b≤n∧i=.int .i64 a∧j=.int .i64 b∧(∀ k,k < a→0 < G k)∧(∀ k,b≤k→k < n→G k≤0)∧Below w.heap.size w wr) (fun i j _=>(intOf j).toNat - (intOf i).toNat)
 case atStart=>exact ⟨0,n,by omega,by omega,rfl,rfl,fun k hk=>(by omega),fun k h1 h2=>(by omega),Below.refl _ _⟩
 case round =>
   obtain ⟨a,b,hab,hbn,rfl,rfl,hlo,hhi,hb⟩:=hrel
   have HLO:=Lib.hid hlo
   have HHI:=Lib.hid hhi
   have HB:=Lib.hid hb
   clear hlo hhi hb
   by_cases hlt:a < b
   · have b1:decide ((a:Int) < (b:Int))=true:=by simpa using hlt
     obtain ⟨h,hh⟩:∃ h:Nat,h=(a + b) / 2:=⟨_,rfl⟩
     have hh2:Hid (a≤h∧h < b):=Lib.hid (by omega)
     have HH:Hid (((a:Int) + (b:Int)) / 2=(h:Int)):=Lib.hid (by omega)
     have hhn:h≤1000000:=by omega
     clear hh
     go_wp2_with fail
     rw [HH.out]
     refine (HP.out h wr (by have:=hh2.out;omega) HB.out).mono ?_
     rintro r w1 ⟨rfl,hb1⟩
     have HB1:Hid (Below w.heap.size w w1):=Lib.hid (HB.out.trans (hb1.mono HB.out.size))
     clear hb1
     by_cases hp:0 < G h
     · have b2:decide (0 < G h)=true:=by simpa using hp
       have HPP:=Lib.hid hp
       obtain ⟨z,hz⟩:∃ z,z=G h:=⟨_,rfl⟩
       rw [←hz] at b2 ⊢
       clear hp hz
       go_wp2
       go_roundw
       · exact ⟨h + 1,b,by have:=hh2.out;omega,by omega,by simp,rfl,fun k hk=>HM.out k h (by omega) (by have:=hh2.out;omega) HPP.out,HHI.out,HB1.out⟩
       · have:=hh2.out;simp [intOf];omega
     · have b2:decide (0 < G h)=false:=by simpa using hp
       have HPP:=Lib.hid hp
       obtain ⟨z,hz⟩:∃ z,z=G h:=⟨_,rfl⟩
       rw [←hz] at b2 ⊢
       clear hp hz
       go_wp2
       go_roundw
       · refine ⟨a,h,by have:=hh2.out;omega,by have:=hh2.out;omega,rfl,rfl,HLO.out,fun k h1 h2=>?_,HB1.out⟩
         exact Int.not_lt.1 (fun e=>by have:=HM.out h k h1 h2 e;have:=HPP.out;omega)
       · have:=hh2.out;simp [intOf];omega
   · have b1:decide ((a:Int) < (b:Int))=false:=by simp;omega
     obtain rfl:a=b:=by omega
     by_cases hlt2:a < n
     · have b2:decide ((a:Int) < (n:Int))=true:=by simpa using hlt2
       have HL2:=Lib.hid hlt2
       go_wp2_with fail
       refine (HP.out a wr HL2.out HB.out).mono ?_
       rintro r w1 ⟨rfl,hb1⟩
       have HB1:Hid (Below w.heap.size w w1):=Lib.hid (HB.out.trans (hb1.mono HB.out.size))
       clear hb1
       obtain ⟨z,hz⟩:∃ z,z=G a:=⟨_,rfl⟩
       rw [←hz]
       have HZ:=Lib.hid hz
       clear hz
       go_wp2
       go_ret2
       refine ⟨a,hbn,HLO.out,HHI.out,?_,HB1.out⟩
       have e:decide (a < n∧G a=0)=(z == 0):=by rw [←HZ.out];simp [HL2.out];rfl
       rw [e]
       rfl
     · have b2:decide ((a:Int) < (n:Int))=false:=by simp;omega
       have HL2:=Lib.hid hlt2
       go_wp2
       go_ret2
       refine ⟨a,hbn,HLO.out,HHI.out,?_,HB.out⟩
       have e:decide (a < n∧G a=0)=false:=by simp;intro h;exact absurd h HL2.out
       rw [e]
       rfl
theorem cAt_mono {l:List Wr} (h:l.Pairwise late) (x:Int×Int):∀ i j,i≤j→j < l.length→0 < cAt l x j→0 < cAt l x i:=by
 intro i j hij hj h0
 obtain ⟨a,ha⟩:∃ a,l[i]? = some a:=⟨l[i],List.getElem?_eq_getElem _⟩
 obtain ⟨b,hb⟩:∃ b,l[j]? = some b:=⟨l[j],List.getElem?_eq_getElem _⟩
 rw [cAt_is hb] at h0
 rw [cAt_is ha]
 by_cases e:i=j
 · subst e
   rw [ha] at hb
   rw [Option.some.inj hb];exact h0
 have hl:late a b:=by
   have:=List.pairwise_iff_getElem.1 h i j (by omega) hj (by omega)
   rwa [(List.getElem?_eq_some_iff.1 ha).2,(List.getElem?_eq_some_iff.1 hb).2] at this
 obtain ⟨x1,x2⟩:=x
 rw [late_lt] at hl
 unfold wid at h0 ⊢
 rw [cI_val] at h0 ⊢
 split at h0
 · omega
 · split at h0
   · omega
   · rename_i h1 h2
     rw [if_neg (by omega),if_neg (by omega)]
     omega
theorem cAt_yes {l:List Wr} {x y:Wr} {k:Nat} (h:l[k]? = some y):0 < cAt l (wid x) k↔late y x:=by
 rw [cAt_is h,late_lt]
 unfold wid
 rw [cI_val]
 split
 · omega
 · split <;> omega
theorem cAt_eq {l:List Wr} {x y:Wr} {k:Nat} (h:l[k]? = some y):cAt l (wid x) k=0↔wid y=wid x:=by
 rw [cAt_is h]
 unfold wid
 rw [cI_val]
 split
 · simp;omega
 · split
   · simp;omega
   · simp;omega
set_option maxRecDepth 100000 in
theorem lplace_any (v:Value) (l:List Wr) (x1 x2:Int) (w:World) (hv:IsWrs w v l) (hl:l.length≤1000000) (hs:l.Pairwise late) :
   Calls Tryz.prog 85 #[v,.agg #[.int .i64 x1,.int .i64 x2]] w fun e w' =>
     ∃ p:Nat,p≤l.length∧(∀ k,k < p→0 < cAt l (x1,x2) k)∧(∀ k,p≤k→k < l.length→cAt l (x1,x2) k≤0)∧e=.returned (.tuple #[.int .i64 (p:Int),.bool (decide (p < l.length∧cAt l (x1,x2) p=0))])∧Below w.heap.size w w':=by
 have HM:=Lib.hid (cAt_mono hs (x1,x2))
 obtain ⟨a,c,rfl,_⟩:=hv.form
 have HV:=Lib.hid hv
 obtain ⟨n,hn⟩:∃ n,n=l.length:=⟨_,rfl⟩
 rw [←hn] at hl HM HV ⊢
 have HN:=Lib.hid hn
 have HL:=Lib.hid hl
 clear hv hn hs hl
 go_enter Tryz.func85,Tryz.ntmps85
 go_wp2_with fail
 refine (find_any _ l x1 x2 n w.heap.size (w.heap.size + 1) _ ((HV.out.alloc _).alloc _) HN.out HL.out ?q1 ?q2 HM.out).mono ?_
 case q1=>rw [Below.heap_alloc _ _ _ (by simp)];exact heap_alloc_new _ _
 case q2=>have:=heap_alloc_new (w.alloc (.cells #[.slice a n c] 36)) (.cells #[.int .i64 x1,.int .i64 x2] 23);rwa [World.size_alloc] at this
 rintro r w1 ⟨p,hp,h1,h2,rfl,hb⟩
 have HX:Hid (p≤n∧(∀ k,k < p→0 < cAt l (x1,x2) k)∧(∀ k,p≤k→k < n→cAt l (x1,x2) k≤0)):=Lib.hid ⟨hp,h1,h2⟩
 have HB:Hid (Below w.heap.size w w1):=Lib.hid ((((Below.refl _ _).alloc (Nat.le_refl _) _).alloc (by simp) _).trans (hb.mono (by simp;omega)))
 obtain ⟨d,hd⟩:∃ d,d=decide (p < n∧cAt l (x1,x2) p=0):=⟨_,rfl⟩
 rw [←hd]
 have HD:=Lib.hid hd
 clear hp h1 h2 hb hd
 go_wp2
 go_ret2
 exact ⟨p,HX.out.1,HX.out.2.1,HX.out.2.2,by rw [←HD.out];rfl,HB.out⟩
end Go.Proofs.YtifbebhgeheooaaGreatDoor
namespace Go.Proofs.YtifbebhgeheooaaGreatDoor
open Go.RowKit
theorem clone_nilW (w:World) :
   Calls Tryz.prog 11 #[.slice none 0 0] w fun e w'=>e=.returned (.slice none 0 0)∧w=w':=by
 have heq:∀ w:World,(binOp BinOp.eql 36 (.slice none 0 0) (.slice none 0 0)).run Tryz.prog w=.ok (.bool true) w:=fun w=>Go.Lib.run_eql_slice_nil w _ _ none 0 0 0 0 Tryz.underlying36
 go_enter Tryz.func11,Tryz.ntmps11
 go_wp2
 go_ret
 exact ⟨rfl,rfl⟩
theorem clone_ws (v:Value) (l:List Wr) (w:World) (ho:ownsW w 0 v l) (hz:l=[]→v=.slice none 0 0) (h6:l.length≤1000000) :
   Calls Tryz.prog 11 #[v] w fun e w'=>∃ v',e=.returned v'∧ownsW w' w.heap.size v' l∧(l=[]→v'=.slice none 0 0)∧Below w.heap.size w w':=by
 by_cases h:l=[]
 · subst h
   rw [hz rfl]
   exact (clone_nilW w).mono fun e w' ⟨h1,h2⟩=>⟨_,h1,ownsW_nil _ _,fun _=>rfl,by rw [h2];exact Below.refl _ _⟩
 · exact (clone_wrs v l w ho.is (List.length_pos_iff.2 h) h6).mono fun e w' ⟨v',h1,h2,h3⟩=>⟨v',h1,h2,fun e=>absurd e h,h3⟩
def TogIs (w:World) (ws b:List Wr) (e:Ending) (w':World):Prop :=
 (togE ws b=(0,-1)∧∃ u,e=.returned (.tuple #[u,.nilIface])∧ownsW w' w.heap.size u (accW ws b)∧(accW ws b=[]→u=.slice none 0 0)∧Below w.heap.size w w') ∨
 ((togE ws b).1≠0∧∃ err,e=.returned (.tuple #[.slice none 0 0,err])∧anyErr w' err (togE ws b)∧Below w.heap.size w w')
theorem togE_twice {ws b:List Wr} {k:Nat} {x:Wr} (hn:∀ y∈b.take k,¬ clash ws y) (hx:b[k]? = some x) (hc:clash ws x):togE ws b=(9,(k:Int)):=by
 unfold togE
 rw [twA_some b k 0 x hn hx hc]
 simp
theorem togE_none {ws b:List Wr} (hn:∀ y∈b,¬ clash ws y):togE ws b=if 300 < (accW ws b).length then (12,-1) else (0,-1):=by
 unfold togE
 rw [(twA_none b 0).2 hn,accW_len]
theorem take_all {b:List Wr} {n:Nat} (h:n=b.length):b.take n=b:=List.take_of_length_le (by rw [h];exact Nat.le_refl _)
structure TG (w:World) (ws b:List Wr) (k:Nat) (av:Value) (wr:World):Prop where
 own:ownsW wr w.heap.size av (accW ws (b.take k))
 nil:accW ws (b.take k)=[]→av=.slice none 0 0
 none:∀ y∈b.take k,¬ clash ws y
 bel:Below w.heap.size w wr
theorem TG.there {w wr w':World} {ws b:List Wr} {k:Nat} {av:Value} {x y:Wr} (h:TG w ws b k av wr) (hw:ws.Pairwise late) (hb:b.Pairwise late) (hx:b[k]? = some x) (hy:y∈ws) (e:y=x) (hbel:Below wr.heap.size wr w'):TG w ws b (k + 1) av w':=by
 have h1:=accW_there hw hb hx hy (by rw [e])
 refine ⟨by rw [h1];exact h.own.below hbel,by rw [h1];exact h.nil,fun z hz=>?_,h.bel.trans (hbel.mono h.bel.size)⟩
 rw [take_one hx] at hz
 rcases List.mem_append.1 hz with hz | hz
 · exact h.none z hz
 · obtain rfl:=List.mem_singleton.1 hz
   rintro ⟨v,hv,e1,e2⟩
   exact e2 ((late_ids hw hv hy (e1.trans (by rw [e]))).trans e)
theorem TG.put {w wr w':World} {ws b:List Wr} {k p:Nat} {av u:Value} {x:Wr} (h:TG w ws b k av wr) (hw:ws.Pairwise late) (hb:b.Pairwise late) (hx:b[k]? = some x) (hp:p≤(accW ws (b.take k)).length)
   (h1:∀ i,i < p→0 < cAt (accW ws (b.take k)) (wid x) i) (h2:∀ i,p≤i→i < (accW ws (b.take k)).length→cAt (accW ws (b.take k)) (wid x) i≤0) (hn:¬ (p < (accW ws (b.take k)).length∧cAt (accW ws (b.take k)) (wid x) p=0))
   (ho:ownsW w' w.heap.size u ((accW ws (b.take k)).take p ++ x :: (accW ws (b.take k)).drop p)) (hbel:Below w.heap.size w w'):TG w ws b (k + 1) u w':=by
 have hl:(accW ws (b.take k)).Pairwise late:=accW_late hw (take_late hb k)
 have g1:∀ i y,i < p→(accW ws (b.take k))[i]? = some y→late y x:=fun i y hi hy=>(cAt_yes hy).1 (h1 i hi)
 have g2:∀ i y,p≤i→(accW ws (b.take k))[i]? = some y→late x y:=fun i y hi hy=>by
   have hil:=(List.getElem?_eq_some_iff.1 hy).1
   have hne:wid y≠wid x:=fun e=>by
     by_cases hip:i=p
     · subst hip;exact hn ⟨hil,(cAt_eq hy).2 e⟩
     · obtain ⟨z,hz⟩:∃ z,(accW ws (b.take k))[p]? = some z:=⟨_,List.getElem?_eq_getElem (by omega)⟩
       have hpz:=h2 p (Nat.le_refl _) (by omega)
       have hzy:late z y:=by
         have:=List.pairwise_iff_getElem.1 hl p i (by omega) hil (by omega)
         rwa [(List.getElem?_eq_some_iff.1 hz).2,(List.getElem?_eq_some_iff.1 hy).2] at this
       have hzx:late z x:=by
         rw [late_lt] at hzy ⊢
         unfold wid at e
         simp only [Prod.mk.injEq] at e
         omega
       have:=(cAt_yes (x:=x) hz).2 hzx
       omega
   rcases late_total hne with e | e
   · have:=(cAt_yes (x:=x) hy).2 e
     have:=h2 i hi hil
     omega
   · exact e
 have e:=accW_ins hw hb hx hp g1 g2
 refine ⟨by rw [e];exact ho,fun e2=>?_,fun z hz=>?_,hbel⟩
 · rw [e] at e2;simp at e2
 · rw [take_one hx] at hz
   rcases List.mem_append.1 hz with hz | hz
   · exact h.none z hz
   · obtain rfl:=List.mem_singleton.1 hz
     rintro ⟨v,hv,e1,_⟩
     have hvA:v∈accW ws (b.take k):=accW_mem.2 (.inl hv)
     obtain ⟨i,hi,e3⟩:=List.getElem_of_mem hvA
     have hv2:(accW ws (b.take k))[i]? = some v:=by rw [List.getElem?_eq_getElem hi,e3]
     by_cases hip:i < p
     · exact late_ne (g1 i v hip hv2) e1
     · exact late_ne (g2 i v (by omega) hv2) e1.symm
set_option maxRecDepth 100000 in
set_option maxHeartbeats 8000000 in
theorem together_any (P:Nat) (F:Nat→Prop) (s:LogS) (v:Value) (b:List Wr) (w:World) (h:LogAt w P F s) (ok:LogOk s) (hv:IsWrs w v b) (hb:b.Pairwise late) (hbl:b.length≤60) (hok:∀ x∈b,x.key.size≤140737488351232∧x.value.size≤140737488351232) :
   Calls Tryz.prog 45 #[.pointer (some ⟨P,0,none⟩),v] w (TogIs w s.ws b):=by
 obtain ⟨vh,vw,h⟩:=h
 have p2:=h.c2
 obtain ⟨ws,hws⟩:∃ ws,ws=s.ws:=⟨_,rfl⟩
 have HO:=Lib.hid h.ows
 have HZ:=Lib.hid h.nil
 have HS:=Lib.hid ok.srt
 have hln:=ok.len
 rw [←hws] at HO HZ HS hln ⊢
 obtain ⟨a,c,rfl,hf⟩:=hv.form
 have HF:=Lib.hid hf
 have HBL:=Lib.hid hb
 have HOK:=Lib.hid hok
 have HLN:=Lib.hid hln
 obtain ⟨n,hn⟩:∃ n,n=b.length:=⟨_,rfl⟩
 rw [←hn] at hbl ⊢
 have HN:=Lib.hid hn
 clear h ok hws hv hb hok hf hn hln
 go_enter Tryz.func45,Tryz.ntmps45
 go_wp2_with (go_at_call 11;refine (clone_ws vw ws _ HO.out HZ.out (by have:=HLN.out;omega)).mono ?_;rintro r w1 ⟨u,rfl,ho,hz,hb1⟩;have HT0:Hid (TG w ws b 0 u w1):=Lib.hid ⟨by rw [List.take_zero,accW_nil HS.out];exact ho,by rw [List.take_zero,accW_nil HS.out];exact hz,fun y hy=>(by simp at hy),hb1⟩;clear ho hz hb1)
 go_loopw [6,18] (fun av i wr=>∃ k:Nat,k≤n∧i=.int .i64 k∧TG w ws b k av wr) (fun _ i _=>n - (intOf i).toNat)
 case atStart=>exact ⟨0,by omega,rfl,HT0.out⟩
 case round =>
   obtain ⟨k,hk,rfl,ht⟩:=hrel
   have HT:=Lib.hid ht
   have HSR:=Lib.hid ht.bel.size
   clear ht HT0
   by_cases hlt:k < n
   · have b1:decide ((k:Int) < (n:Int))=true:=by simpa using hlt
     obtain ⟨x, hx⟩ : ∃ x, b[k]? = some x := ⟨b[k]'(by rw [← HN.out]; exact hlt), List.getElem?_eq_getElem _⟩
     obtain ⟨bb,off,rfl,hbl2,c0,c1,c2,c3,c4,c5⟩:=HF.out k x hx
     have hsz:=HOK.out x (List.mem_of_getElem? hx)
     have HX:=Lib.hid hx
     obtain ⟨T,Re,K,key,val,N⟩:=x
     simp only at c0 c1 c2 c3 c4 c5 hsz
     obtain ⟨hks,hvs⟩:=hsz
     have d:∀ j u,w.cell? ⟨bb,j,none⟩=some u→wr.cell? ⟨bb,j,none⟩=some u:=fun j u hu=>(HT.out.bel.cell (p:=⟨bb,j,none⟩) hbl2).trans hu
     have e0:=d _ _ c0
     have e1:=d _ _ c1
     have e2:=d _ _ c2
     have e3:=d _ _ c3
     have e4:=d _ _ c4
     have e5:=d _ _ c5
     have HKS:=Lib.hid hks
     have HVS:=Lib.hid hvs
     obtain ⟨A,hA⟩:∃ A,A=accW ws (b.take k):=⟨_,rfl⟩
     have HA:=Lib.hid hA
     have hAl:A.length≤400:=by
       rw [hA,accW_len]
       have h1:=HLN.out
       have h2:(freshW ws (b.take k)).length≤(b.take k).length:=List.length_filter_le _ _
       rw [List.length_take] at h2
       omega
     have HAL:=Lib.hid hAl
     have HOA:Hid (ownsW wr w.heap.size u6 A):=Lib.hid (by rw [hA];exact HT.out.own)
     have HAS:Hid (A.Pairwise late):=Lib.hid (by rw [hA];exact accW_late HS.out (take_late HBL.out k))
     clear hx c0 c1 c2 c3 c4 c5 d hbl2 hks hvs hA hAl
     go_wp2_with fail
     obtain ⟨wB,hwB⟩:∃ wB,wB=wr.alloc (.cells #[.int .i64 T,.int .i64 Re,.int .i64 K,.string key,.string val,.int .i64 N] 25):=⟨_,rfl⟩
     have hrow:wB.heap[wr.heap.size]? = some (.cells #[.int .i64 T,.int .i64 Re,.int .i64 K,.string key,.string val,.int .i64 N] 25 (0,0)):=by rw [hwB];exact heap_alloc_new _ _
     have HROW:=Lib.hid hrow
     have HBB:Hid (Below wr.heap.size wr wB):=Lib.hid (by rw [hwB];exact (Below.refl _ _).alloc (Nat.le_refl _) _)
     have HSB:Hid (wr.heap.size < wB.heap.size):=Lib.hid (by rw [hwB];simp)
     rw [←hwB]
     clear hwB hrow e0 e1 e2 e3 e4 e5
     refine (lplace_any u6 A T Re wB (HOA.out.below HBB.out).is (by have:=HAL.out;omega) HAS.out).mono ?_
     rintro r w2 ⟨p,hp,h1,h2,rfl,hb2⟩
     have HPP:Hid (p≤A.length∧(∀ k,k < p→0 < cAt A (T,Re) k)∧(∀ k,p≤k→k < A.length→cAt A (T,Re) k≤0)):=Lib.hid ⟨hp,h1,h2⟩
     have HB2:Hid (Below wr.heap.size wr w2):=Lib.hid (HBB.out.trans (hb2.mono HBB.out.size))
     have hrow2:w2.heap[wr.heap.size]? = some (.cells #[.int .i64 T,.int .i64 Re,.int .i64 K,.string key,.string val,.int .i64 N] 25 (0,0)):=(hb2.block _ HSB.out).trans HROW.out
     have HROW2:=Lib.hid hrow2
     have g0:=cell_of_row _ _ 0 _ _ _ hrow2
     have g1:=cell_of_row _ _ 1 _ _ _ hrow2
     have g2:=cell_of_row _ _ 2 _ _ _ hrow2
     have g3:=cell_of_row _ _ 3 _ _ _ hrow2
     have g4:=cell_of_row _ _ 4 _ _ _ hrow2
     have g5:=cell_of_row _ _ 5 _ _ _ hrow2
     simp only [List.getElem?_toArray,List.getElem?_cons_zero,List.getElem?_cons_succ] at g0 g1 g2 g3 g4 g5
     have hpA:p≤400:=Nat.le_trans hp HAL.out
     clear hp h1 h2 hb2 hrow2
     by_cases hth:p < A.length∧cAt A (T,Re) p=0
     · rw [decide_eq_true hth]
       obtain ⟨y, hy⟩ : ∃ y, A[p]? = some y := ⟨A[p]'hth.1, List.getElem?_eq_getElem _⟩
       have hyw:wid y=wid ⟨T,Re,K,key,val,N⟩:=(cAt_eq hy).1 hth.2
       have hys:y∈ws:=accW_own HBL.out HX.out (by rw [←HA.out];exact List.mem_of_getElem? hy) hyw
       have hpl:p < A.length:=hth.1
       obtain ⟨av,ac,rfl,hfa⟩:=(HOA.out.below HB2.out).is.form
       obtain ⟨m,hm⟩:∃ m,m=A.length:=⟨_,rfl⟩
       rw [←hm] at hpl HOA HT ⊢
       have hplI:(p:Int) < (m:Int):=by omega
       have hm4:m≤400:=by rw [hm];exact HAL.out
       obtain ⟨ab,aoff,rfl,_,f0,f1,f2,f3,f4,f5⟩:=hfa p y hy
       have HYS:=Lib.hid hys
       obtain ⟨T',Re',K',key',val',N'⟩:=y
       simp only at f0 f1 f2 f3 f4 f5
       simp only [wid,Prod.mk.injEq] at hyw
       obtain ⟨rfl,rfl⟩:=hyw
       clear hy hys hfa hth hm
       by_cases he:K'=K
       · subst he
         by_cases he:key'=key
         · subst he
           by_cases he:val'=val
           · subst he
             by_cases he:N'=N
             · subst he
               go_wp2
               go_quiet (fail)
               go_wp2
               go_roundw
               · exact ⟨k + 1,by omega,by simp,HT.out.there HS.out HBL.out HX.out HYS.out rfl (below_drewN HB2.out _)⟩
               · simp [intOf];omega
             · have HTE:Hid (togE ws b=(9,(k:Int))):=Lib.hid (togE_twice HT.out.none HX.out ⟨_,HYS.out,rfl,fun e=>by simp only [Wr.mk.injEq] at e;exact he e.2.2.2.2.2⟩)
               have x1:(N' == N)=false:=by simpa using he
               have x2:(N' != N)=true:=by simpa using he
               clear he
               go_wp2
               go_quiet (fail)
               go_wp2
               go_ret2
               exact .inr (by rw [HTE.out];exact ⟨by simp,_,rfl,.inl (atIs.new _ 9 _ (by simp)),(below_drewN (HT.out.bel.trans (HB2.out.mono HSR.out)) _).alloc (Nat.le_trans HSR.out (below_drewN HB2.out _).size) _⟩)
           · have HTE:Hid (togE ws b=(9,(k:Int))):=Lib.hid (togE_twice HT.out.none HX.out ⟨_,HYS.out,rfl,fun e=>by simp only [Wr.mk.injEq] at e;exact he e.2.2.2.2.1⟩)
             have x1:(val'.toList == val.toList)=false:=by rw [ByteArray.toList_eq,ByteArray.toList_eq,beq_eq_false_iff_ne];intro e9;exact he (bytes_ext e9)
             have x2:(val'.toList != val.toList)=true:=by rw [bne,x1];rfl
             clear he
             go_wp2
             go_quiet (fail)
             go_wp2
             go_ret2
             exact .inr (by rw [HTE.out];exact ⟨by simp,_,rfl,.inl (atIs.new _ 9 _ (by simp)),(below_drewN (HT.out.bel.trans (HB2.out.mono HSR.out)) _).alloc (Nat.le_trans HSR.out (below_drewN HB2.out _).size) _⟩)
         · have HTE:Hid (togE ws b=(9,(k:Int))):=Lib.hid (togE_twice HT.out.none HX.out ⟨_,HYS.out,rfl,fun e=>by simp only [Wr.mk.injEq] at e;exact he e.2.2.2.1⟩)
           have x1:(key'.toList == key.toList)=false:=by rw [ByteArray.toList_eq,ByteArray.toList_eq,beq_eq_false_iff_ne];intro e9;exact he (bytes_ext e9)
           have x2:(key'.toList != key.toList)=true:=by rw [bne,x1];rfl
           clear he
           go_wp2
           go_quiet (fail)
           go_wp2
           go_ret2
           exact .inr (by rw [HTE.out];exact ⟨by simp,_,rfl,.inl (atIs.new _ 9 _ (by simp)),(below_drewN (HT.out.bel.trans (HB2.out.mono HSR.out)) _).alloc (Nat.le_trans HSR.out (below_drewN HB2.out _).size) _⟩)
       · have HTE:Hid (togE ws b=(9,(k:Int))):=Lib.hid (togE_twice HT.out.none HX.out ⟨_,HYS.out,rfl,fun e=>by simp only [Wr.mk.injEq] at e;exact he e.2.2.1⟩)
         have x1:(K' == K)=false:=by simpa using he
         have x2:(K' != K)=true:=by simpa using he
         clear he
         go_wp2
         go_quiet (fail)
         go_wp2
         go_ret2
         exact .inr (by rw [HTE.out];exact ⟨by simp,_,rfl,.inl (atIs.new _ 9 _ (by simp)),(below_drewN (HT.out.bel.trans (HB2.out.mono HSR.out)) _).alloc (Nat.le_trans HSR.out (below_drewN HB2.out _).size) _⟩)
     · rw [decide_eq_false hth]
       have HTH:=Lib.hid hth
       have hne:∀ (W:World),w2.heap.size≤W.heap.size→u6.ownBlock≠some W.heap.size:=fun W hW e=>by
         have h1:=(HOA.out.lt _ e).2
         have h2:=HB2.out.size
         omega
       have HNE:=Lib.hid hne
       clear hth hne
       go_wp2_with fail
       refine (lapart_any T Re K key val N _ HKS.out HVS.out).mono ?_
       rintro r w3 ⟨rfl,hb3⟩
       have HB3:Hid (Below wr.heap.size wr w3):=Lib.hid (HB2.out.trans (hb3.mono HB2.out.size))
       have HS3:=Lib.hid hb3.size
       clear hb3
       go_wp2_with fail
       refine (lins_any u6 p A.length w3.heap.size A ⟨T,Re,K,key,val,N⟩ _ w.heap.size ((HOA.out.below HB3.out).alloc _) rfl HPP.out.1 (by have:=HAL.out;omega) (heap_alloc_new _ _) (HNE.out w3 HS3.out) (by have:=HSR.out;have:=HB3.out.size;simp;omega)).mono ?_
       rintro r w4 ⟨u,rfl,ho4,hb4⟩
       have HO4:=Lib.hid ho4
       have HB4:Hid (Below w.heap.size w w4):=Lib.hid (((HT.out.bel.trans (HB3.out.mono HSR.out)).alloc (Nat.le_trans HSR.out HB3.out.size) _).trans hb4)
       clear ho4 hb4
       go_wp2
       go_roundw
       · refine ⟨k + 1,by omega,by simp,?_⟩
         have h1:=HPP.out
         have h2:=HTH.out
         have h3:=HO4.out
         rw [HA.out] at h1 h2 h3
         exact HT.out.put HS.out HBL.out HX.out h1.1 h1.2.1 h1.2.2 h2 h3 HB4.out
       · simp [intOf];omega
   · have b1:decide ((k:Int) < (n:Int))=false:=by simp;omega
     obtain rfl:k=n:=by omega
     have HNO:Hid (∀ y∈b,¬ clash ws y):=Lib.hid (by have:=HT.out.none;rwa [take_all HN.out] at this)
     have HOB:Hid (ownsW wr w.heap.size u6 (accW ws b)∧(accW ws b=[]→u6=.slice none 0 0)):=Lib.hid (by have h1:=HT.out.own;have h2:=HT.out.nil;rw [take_all HN.out] at h1 h2;exact ⟨h1,h2⟩)
     have HTB:=Lib.hid HT.out.bel
     clear HT
     obtain ⟨av,ac,rfl,_⟩:=HOB.out.1.is.form
     obtain ⟨m,hm⟩:∃ m,m=(accW ws b).length:=⟨_,rfl⟩
     rw [←hm] at HOB ⊢
     have HM:=Lib.hid hm
     clear hm
     by_cases hf:300 < m
     · have b2:decide ((300:Int) < (m:Int))=true:=by simp;omega
       have HTE:Hid (togE ws b=(12,-1)):=Lib.hid (by rw [togE_none HNO.out,←HM.out,if_pos hf])
       clear hf
       go_wp2
       go_ret2
       exact .inr (by rw [HTE.out];exact ⟨by simp,_,rfl,.inr ⟨by simp,rfl,rfl⟩,HTB.out⟩)
     · have b2:decide ((300:Int) < (m:Int))=false:=by simp;omega
       have HTE:Hid (togE ws b=(0,-1)):=Lib.hid (by rw [togE_none HNO.out,←HM.out,if_neg hf])
       clear hf
       go_wp2
       go_ret2
       exact .inl ⟨HTE.out,_,rfl,HOB.out.1,HOB.out.2,HTB.out⟩
end Go.Proofs.YtifbebhgeheooaaGreatDoor
namespace Go.Proofs.YtifbebhgeheooaaGreatDoor
open Go.RowKit
theorem ofF_drop {l:List Ent} {k:Nat} {t:Ent} (h:l[k]? = some t) (x:Int):ofF (l.drop k) x=if t.rep=x then t.time else ofF (l.drop (k + 1)) x:=by
 obtain ⟨hk,ht⟩:=List.getElem?_eq_some_iff.1 h
 rw [List.drop_eq_getElem_cons hk,ht];rfl
set_option maxRecDepth 100000 in
set_option maxHeartbeats 2000000 in
theorem vof_any (v:Value) (l:List Ent) (x:Int) (w:World) (hv:IsEnts w v l) (hl:l.length≤9223372036854775807) :
   Calls Tryz.prog 52 #[v,.int .i64 x] w fun r w'=>r=.returned (.int .i64 (ofF l x))∧Below w.heap.size w w':=by
 obtain ⟨a1,c1,rfl,f1⟩:=hv.form
 have F1:=Lib.hid f1
 obtain ⟨n,hn⟩:∃ n,n=l.length:=⟨_,rfl⟩
 rw [←hn] at hl ⊢
 have HN:=Lib.hid hn
 clear hv f1 hn
 go_enter Tryz.func52,Tryz.ntmps52
 go_wp2
 go_loopw [9] (fun i wr=>∃ k:Nat,k≤n∧i=.int .i64 k∧ofF l x=ofF (l.drop k) x∧Below w.heap.size w wr) (fun i _=>n - (intOf i).toNat)
 case atStart=>exact ⟨0,by omega,rfl,rfl,Below.refl _ _⟩
 case round =>
   obtain ⟨k,hk,rfl,heq,hbel⟩:=hrel
   have HEQ:=Lib.hid heq
   have HB:=Lib.hid hbel
   have hzr:=hbel.size
   clear heq hbel
   by_cases hlt:k < n
   · obtain ⟨t, ht⟩ : ∃ t, l[k]? = some t := ⟨l[k]'(by have := HN.out; omega), List.getElem?_eq_getElem _⟩
     obtain ⟨b1,o1,rfl,hb1,p0,p1⟩:=F1.out k t ht
     have hd:=ofF_drop ht x
     obtain ⟨rep,time⟩:=t
     simp only at p0 p1 hd
     have q0:=(HB.out.cell (p:=⟨b1,o1 + k * 2,none⟩) hb1).trans p0
     have q1:=(HB.out.cell (p:=⟨b1,o1 + k * 2 + 1,none⟩) hb1).trans p1
     by_cases hx:rep=x
     · have HW:Hid (ofF l x=time):=Lib.hid (show ofF l x=time by rw [HEQ.out,hd,if_pos hx])
       clear p0 p1 ht hd
       subst hx
       go_wp2
       go_ret
       exact ⟨by rw [HW.out];rfl,HB.out.alloc hzr _⟩
     · have HW:Hid (ofF l x=ofF (l.drop (k + 1)) x):=Lib.hid (show ofF l x=ofF (l.drop (k + 1)) x by rw [HEQ.out,hd,if_neg hx])
       have bx:(rep == x)=false:=by simpa using hx
       clear p0 p1 ht hd
       go_wp2
       go_roundw
       case rel=>exact ⟨k + 1,by omega,by go_num,HW.out,HB.out.alloc hzr _⟩
       case measure=>simp [intOf];omega
   · have HW:Hid (ofF l x=0):=Lib.hid (show ofF l x=0 by rw [HEQ.out,List.drop_eq_nil_of_le (by have:=HN.out;omega)];rfl)
     go_wp2
     go_ret
     exact ⟨by rw [HW.out];rfl,HB.out⟩
def noV (e:Nat):Value:=if e=0 then .nilIface else .iface 42 (.int .i64 (e:Nat))
theorem noV_0:noV 0=.nilIface:=rfl
theorem noV_e {e:Nat} (h:e≠0):noV e=.iface 42 (.int .i64 (e:Nat)):=by unfold noV;rw [if_neg h]
set_option maxRecDepth 100000 in
set_option maxHeartbeats 1000000 in
theorem vbare_any (v:Value) (l:List Ent) (w:World) (hv:IsEnts w v l) (hl:l.length≤9223372036854775807) (hg:errT w) :
   Calls Tryz.prog 84 #[v] w fun r w'=>r=.returned (noV (vrightF l).1)∧Below w.heap.size w w':=by
 have HV:=Lib.hid hv
 have HG:=Lib.hid hg
 obtain ⟨a1,c1,rfl,_⟩:=hv.form
 obtain ⟨n,hn⟩:∃ n,n=l.length:=⟨_,rfl⟩
 have HL:=Lib.hid hl
 rw [←hn] at HV ⊢
 clear hv hg hn hl
 by_cases h0:(vrightF l).1=0
 · have H0:=Lib.hid h0
   clear h0
   rw [H0.out]
   go_enter Tryz.func84,Tryz.ntmps84
   go_wp2_with fail
   refine (vright_any _ l _ HV.out HL.out).mono ?_
   rintro r w1 ⟨err,rfl,hat,hb1⟩
   obtain rfl:=hat.nil H0.out
   have HB1:=Lib.hid hb1
   clear hat hb1
   go_wp2
   go_ret
   exact ⟨rfl,HB1.out⟩
 · have H0:=Lib.hid h0
   have HQ:=Lib.hid (noV_e h0)
   clear h0
   go_enter Tryz.func84,Tryz.ntmps84
   go_wp2_with fail
   refine (vright_any _ l _ HV.out HL.out).mono ?_
   rintro r w1 ⟨err,rfl,hat,hb1⟩
   have HE:=Lib.hid (hat.isErr H0.out)
   obtain ⟨t,u,rfl⟩:=hat.iface H0.out
   have HB1:=Lib.hid hb1
   have HG1:=Lib.hid (HG.out.below hb1)
   clear hat hb1
   go_wp2_with fail
   refine (tell_err _ _ _ HG1.out HE.out).mono ?_
   rintro r w2 ⟨rfl,hb2⟩
   have HB2:Hid (Below w.heap.size w w2):=HB1.out.trans (hb2.mono HB1.out.size)
   clear hb2
   go_wp2
   go_ret
   exact ⟨by rw [HQ.out];rfl,HB2.out⟩
end Go.Proofs.YtifbebhgeheooaaGreatDoor
namespace Go.Proofs.YtifbebhgeheooaaGreatDoor
open Go.RowKit
def arrA (f:Nat→Int):Array Value:=((List.range 201).map fun i=>Value.int .i64 (f i)).toArray
theorem arrA_size (f:Nat→Int):(arrA f).size=201:=by simp [arrA]
theorem arrA_at (f:Nat→Int) (i:Nat) (h:i < 201):(arrA f)[i]? = some (.int .i64 (f i)):=by
 unfold arrA
 simp [h]
def updT (f:Nat→Int) (r:Nat) (x:Int):Nat→Int:=fun i=>if i=r then x else f i
theorem arrA_set (f:Nat→Int) (r:Nat) (x:Int) (h:r < 201):(arrA f).setIfInBounds r (.int .i64 x)=arrA (updT f r x):=by
 apply Array.ext_getElem?
 intro i
 rw [Array.getElem?_setIfInBounds,arrA_size]
 by_cases hi:i < 201
 · by_cases e:r=i
   · subst e;rw [if_pos rfl,if_pos h,arrA_at _ r hi];unfold updT;rw [if_pos rfl]
   · rw [if_neg e,arrA_at _ i hi,arrA_at _ i hi];unfold updT;rw [if_neg (by omega)]
 · rw [if_neg (by omega),Array.getElem?_eq_none (by rw [arrA_size];omega),Array.getElem?_eq_none (by rw [arrA_size];omega)]
theorem arr_info:(Tryz.prog.info? 133).map (·.size)=some 201:=by kernel_rfl
theorem arr_infoA (f:Nat→Int):(Tryz.prog.info? 133).map (·.size)=some (arrA f).size:=by rw [arrA_size,arr_info]
def arr0:Array Value:=Array.replicate 201 (.int .i64 0)
theorem arr0_is:arr0=arrA fun _=>0:=by
 apply Array.ext_getElem?
 intro i
 unfold arr0
 rw [Array.getElem?_replicate]
 by_cases hi:i < 201
 · rw [if_pos hi,arrA_at _ i hi]
 · rw [if_neg hi,Array.getElem?_eq_none (by rw [arrA_size];omega)]
theorem take_snocE {l:List Ent} {k:Nat} {t:Ent} (h:l[k]? = some t):l.take (k + 1)=l.take k ++ [t]:=by
 obtain ⟨hk,ht⟩:=List.getElem?_eq_some_iff.1 h
 rw [List.take_succ_eq_append_getElem hk,ht]
def foldT (f:Nat→Int) (l:List Ent):Nat→Int:=l.foldl (fun f e=>updT f e.rep.toNat (max (f e.rep.toNat) e.time)) f
theorem foldT_snoc (f:Nat→Int) (l:List Ent) (e:Ent):foldT f (l ++ [e])=updT (foldT f l) e.rep.toNat (max (foldT f l e.rep.toNat) e.time):=by
 unfold foldT;rw [List.foldl_append];rfl
theorem foldT_is (l:List Ent):∀ (f:Nat→Int) (last:Int) (r:Nat),okV last l→(∀ r,0≤f r)→foldT f l r=max (f r) (ofF l r):=by
 induction l with
 | nil=>intro f last r _ hf;show f r=max (f r) 0;have:=hf r;omega
 | cons e t ih =>
   intro f last r h hf
   have hm:=okV_mem h e List.mem_cons_self
   show foldT (updT f e.rep.toNat (max (f e.rep.toNat) e.time)) t r=_
   rw [ih _ e.rep r h.2 (fun r=>by unfold updT;split <;> first | (have:=hf e.rep.toNat;omega) | exact hf r)]
   unfold updT
   by_cases hr:r=e.rep.toNat
   · subst hr
     have e1:((e.rep.toNat:Nat):Int)=e.rep:=by omega
     rw [if_pos rfl,e1,ofF_at rfl,ofF_low h.2 (Int.le_refl _)];omega
   · rw [if_neg hr,ofF_on (by omega)]
def bothT (a b:List Ent):Nat→Int:=foldT (foldT (fun _=>0) a) b
theorem bothT_is {a b:List Ent} {x y:Int} (ha:okV x a) (hb:okV y b) (r:Nat):bothT a b r=jF a b r:=by
 unfold bothT jF
 have h1:∀ r,foldT (fun _=>0) a r=max 0 (ofF a r):=fun r=>foldT_is a _ x r ha (fun _=>Int.le_refl _)
 rw [foldT_is b _ y r hb (fun r=>by rw [h1];omega),h1]
 have:=ofF_bd ha r
 omega
theorem tab_both {a b:List Ent} {x y:Int} (ha:okV x a) (hb:okV y b) (n:Nat):tab (bothT a b) n=tab (jF a b) n:=tab_congr fun r _=>bothT_is ha hb r
def TJ (F:Nat→Int) (w wr:World):Prop:=wr.heap[w.heap.size]? = some (.cells (arrA F) 133 (0,0))∧Below w.heap.size w wr
theorem TJ.start (w:World):TJ (fun _=>0) w (w.alloc (.cells (arrA fun _=>0) 133)):=⟨heap_alloc_new _ _,(Below.refl _ _).alloc (Nat.le_refl _) _⟩
theorem TJ.lt {F:Nat→Int} {w wr:World} (h:TJ F w wr):w.heap.size < wr.heap.size:=(Array.getElem?_eq_some_iff.1 h.1).1
theorem TJ.below {F:Nat→Int} {w wr w':World} (h:TJ F w wr) (hb:Below wr.heap.size wr w'):TJ F w w' :=
 ⟨(hb.block _ h.lt).trans h.1,h.2.trans (hb.mono (Nat.le_of_lt h.lt))⟩
theorem TJ.alloc {F:Nat→Int} {w wr:World} (h:TJ F w wr) (o:Obj):TJ F w (wr.alloc o):=h.below ((Below.refl _ _).alloc (Nat.le_refl _) o)
theorem TJ.drew {F:Nat→Int} {w wr:World} (h:TJ F w wr):TJ F w wr.drew:=⟨by rw [heap_drew];exact h.1,h.2.drew⟩
theorem TJ.set {F:Nat→Int} {w wr:World} (h:TJ F w wr) (r:Nat) (hr:r < 201) (x:Int):TJ (updT F r x) w (wr.setCell ⟨w.heap.size,r,none⟩ (.int .i64 x)) :=
 ⟨by rw [heap_setCell_same _ _ _ _ _ _ h.1,arrA_set F r x hr],h.2.setCell (Nat.le_refl _) _⟩
theorem TJ.cells {F:Nat→Int} {w wr:World} (h:TJ F w wr) (r:Nat) (hr:r < 201):wr.cell? ⟨w.heap.size,r,none⟩=some (.int .i64 (F r))∧wr.frozen? ⟨w.heap.size,r,none⟩=false :=
 ⟨by rw [cell_of_row _ _ _ _ _ _ h.1,arrA_at _ _ hr],frozen_of_row _ _ _ _ _ h.1⟩
end Go.Proofs.YtifbebhgeheooaaGreatDoor
namespace Go.Proofs.YtifbebhgeheooaaGreatDoor
open Go.RowKit
theorem vof_as (v:Value) (l:List Ent) (x y:Int) (w:World) (hv:IsEnts w v l) (hl:l.length≤9223372036854775807) (h:ofF l x=y) :
   Calls Tryz.prog 52 #[v,.int .i64 x] w fun r w'=>r=.returned (.int .i64 y)∧Below w.heap.size w w':=by
 subst h;exact vof_any v l x w hv hl
theorem covA_drop {a b:List Ent} {k:Nat} {t:Ent} (h:b[k]? = some t):covA a (b.drop k)=(decide (t.time≤ofF a t.rep) && covA a (b.drop (k + 1))):=by
 obtain ⟨hk,ht⟩:=List.getElem?_eq_some_iff.1 h
 rw [List.drop_eq_getElem_cons hk,ht];rfl
set_option maxRecDepth 100000 in
set_option maxHeartbeats 4000000 in
theorem vcov_any (va vb:Value) (a b:List Ent) (w:World) (ha:IsEnts w va a) (hb:IsEnts w vb b) (hla:a.length≤9223372036854775807) (hlb:b.length≤9223372036854775807) :
   Calls Tryz.prog 18 #[va,vb] w fun r w'=>r=.returned (.bool (covB a b))∧Below w.heap.size w w':=by
 have HVA:=Lib.hid ha
 have HVB:=Lib.hid hb
 have HLA:=Lib.hid hla
 have HLB:=Lib.hid hlb
 obtain ⟨aa,ca,rfl,_⟩:=ha.form
 obtain ⟨ab,cb,rfl,fb⟩:=hb.form
 have FB:=Lib.hid fb
 obtain ⟨na,hna⟩:∃ n,n=a.length:=⟨_,rfl⟩
 obtain ⟨nb,hnb⟩:∃ n,n=b.length:=⟨_,rfl⟩
 have HNB:=Lib.hid hnb
 rw [←hna] at HVA ⊢
 rw [←hnb] at HVB ⊢
 clear ha hb hla hlb fb hna hnb
 by_cases h1:(vrightF a).1=0
 · by_cases h2:(vrightF b).1=0
   · have H1:=Lib.hid h1
     have H2:=Lib.hid h2
     have HC:Hid (covB a b=covA a b):=Lib.hid (show covB a b=covA a b by unfold covB;rw [h1,h2];simp)
     have h16:nb≤16:=by rw [HNB.out];exact ((vright_ok b).1 h2).1
     clear h1 h2
     rw [HC.out]
     go_enter Tryz.func18,Tryz.ntmps18
     go_wp2_with fail
     refine (vright_any _ a _ HVA.out HLA.out).mono ?_
     rintro r w1 ⟨err,rfl,hat,hb1⟩
     obtain rfl:=hat.nil H1.out
     have HB1:=Lib.hid hb1
     clear hat hb1
     go_wp2_with fail
     refine (vright_any _ b _ (HVB.out.below HB1.out) HLB.out).mono ?_
     rintro r w2 ⟨err,rfl,hat,hb2⟩
     obtain rfl:=hat.nil H2.out
     have HB2:Hid (Below w.heap.size w w2):=HB1.out.trans (hb2.mono HB1.out.size)
     clear hat hb2
     go_wp2
     go_loopw [17] (fun i wr=>∃ k:Nat,k≤nb∧i=.int .i64 k∧covA a b=covA a (b.drop k)∧Below w.heap.size w wr) (fun i _=>nb - (intOf i).toNat)
     case atStart=>exact ⟨0,by omega,rfl,rfl,HB2.out⟩
     case round =>
       obtain ⟨k,hk,rfl,heq,hbel⟩:=hrel
       have HEQ:=Lib.hid heq
       have HB:=Lib.hid hbel
       have hzr:=hbel.size
       clear heq hbel
       by_cases hlt:k < nb
       · obtain ⟨t, ht⟩ : ∃ t, b[k]? = some t := ⟨b[k]'(by have := HNB.out; omega), List.getElem?_eq_getElem _⟩
         obtain ⟨b1,o1,rfl,hb1,p0,p1⟩:=FB.out k t ht
         have hd:=covA_drop (a:=a) ht
         obtain ⟨rep,time⟩:=t
         simp only at p0 p1 hd
         have q0:=(HB.out.cell (p:=⟨b1,o1 + k * 2,none⟩) hb1).trans p0
         have q1:=(HB.out.cell (p:=⟨b1,o1 + k * 2 + 1,none⟩) hb1).trans p1
         obtain ⟨x,hx⟩:∃ x,ofF a rep=x:=⟨_,rfl⟩
         rw [hx] at hd
         have HX:=Lib.hid hx
         have HV1:Hid (IsEnts (wr.alloc (.cells #[.int .i64 rep,.int .i64 time] 34)).drew (.slice aa na ca) a):=Lib.hid (((HVA.out.below HB.out).alloc _).drewN 1)
         have c0:(wr.alloc (.cells #[.int .i64 rep,.int .i64 time] 34)).cell? ⟨wr.heap.size,0,none⟩=some (.int .i64 rep)∧(wr.alloc (.cells #[.int .i64 rep,.int .i64 time] 34)).cell? ⟨wr.heap.size,1,none⟩=some (.int .i64 time):=by simp
         by_cases hlx:x < time
         · have HW:Hid (covA a b=false):=Lib.hid (show covA a b=false by rw [HEQ.out,hd,decide_eq_false (by omega),Bool.false_and])
           clear p0 p1 ht hd hx
           go_wp2
           go_region_held3 (fun w'=>w'.cell? ⟨wr.heap.size,0,none⟩=some (.int .i64 rep)∧w'.cell? ⟨wr.heap.size,1,none⟩=some (.int .i64 time)) (first | exact c0 | exact c2) (first | (go_at_call 52;((with_reducible refine (vof_as _ a rep x _ HV1.out HLA.out HX.out).mono ?_);rintro r w2 ⟨rfl,hb2⟩;have c2:w2.cell? ⟨wr.heap.size,0,none⟩=some (.int .i64 rep)∧w2.cell? ⟨wr.heap.size,1,none⟩=some (.int .i64 time):=⟨(hb2.cell (by simp)).trans c0.1,(hb2.cell (by simp)).trans c0.2⟩;have HB2:Hid (Below w.heap.size w w2):=((HB.out.alloc hzr _).drew.trans (hb2.mono (by simp;omega)));clear hb2)))
           go_wp2
           go_ret
           exact ⟨by rw [HW.out];rfl,HB2.out⟩
         · have HW:Hid (covA a b=covA a (b.drop (k + 1))):=Lib.hid (show covA a b=covA a (b.drop (k + 1)) by rw [HEQ.out,hd,decide_eq_true (by omega),Bool.true_and])
           clear p0 p1 ht hd hx
           go_wp2
           go_region_held3 (fun w'=>w'.cell? ⟨wr.heap.size,0,none⟩=some (.int .i64 rep)∧w'.cell? ⟨wr.heap.size,1,none⟩=some (.int .i64 time)) (first | exact c0 | exact c2) (first | (go_at_call 52;((with_reducible refine (vof_as _ a rep x _ HV1.out HLA.out HX.out).mono ?_);rintro r w2 ⟨rfl,hb2⟩;have c2:w2.cell? ⟨wr.heap.size,0,none⟩=some (.int .i64 rep)∧w2.cell? ⟨wr.heap.size,1,none⟩=some (.int .i64 time):=⟨(hb2.cell (by simp)).trans c0.1,(hb2.cell (by simp)).trans c0.2⟩;have HB2:Hid (Below w.heap.size w w2):=((HB.out.alloc hzr _).drew.trans (hb2.mono (by simp;omega)));clear hb2)))
           go_wp2
           go_roundw
           case rel=>exact ⟨k + 1,by omega,by go_num,HW.out,HB2.out⟩
           case measure=>simp [intOf];omega
       · have HW:Hid (covA a b=true):=Lib.hid (show covA a b=true by rw [HEQ.out,List.drop_eq_nil_of_le (by have:=HNB.out;omega)];rfl)
         go_wp2
         go_ret
         exact ⟨by rw [HW.out];rfl,HB.out⟩
   · have H1:=Lib.hid h1
     have H2:=Lib.hid h2
     have HC:Hid (covB a b=false):=Lib.hid (show covB a b=false by unfold covB;rw [decide_eq_false h2];simp)
     clear h1 h2
     rw [HC.out]
     go_enter Tryz.func18,Tryz.ntmps18
     go_wp2_with fail
     refine (vright_any _ a _ HVA.out HLA.out).mono ?_
     rintro r w1 ⟨err,rfl,hat,hb1⟩
     obtain rfl:=hat.nil H1.out
     have HB1:=Lib.hid hb1
     clear hat hb1
     go_wp2_with fail
     refine (vright_any _ b _ (HVB.out.below HB1.out) HLB.out).mono ?_
     rintro r w2 ⟨err,rfl,hat,hb2⟩
     obtain ⟨t,u,rfl⟩:=hat.iface H2.out
     have HB2:Hid (Below w.heap.size w w2):=HB1.out.trans (hb2.mono HB1.out.size)
     clear hat hb2
     go_wp2
     go_ret
     exact ⟨rfl,HB2.out⟩
 · have H1:=Lib.hid h1
   have HC:Hid (covB a b=false):=Lib.hid (show covB a b=false by unfold covB;rw [decide_eq_false h1];simp)
   clear h1
   rw [HC.out]
   go_enter Tryz.func18,Tryz.ntmps18
   go_wp2_with fail
   refine (vright_any _ a _ HVA.out HLA.out).mono ?_
   rintro r w1 ⟨err,rfl,hat,hb1⟩
   obtain ⟨t,u,rfl⟩:=hat.iface H1.out
   have HB1:=Lib.hid hb1
   clear hat hb1
   go_wp2
   go_ret
   exact ⟨rfl,HB1.out⟩
end Go.Proofs.YtifbebhgeheooaaGreatDoor
