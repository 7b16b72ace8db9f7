import Derived.Test.YtddbpnplbcjpgaaGreatDoorLp22
import Derived.Test.YtddbpnplbcjpgaaGreatDoorLp23
namespace Go.Proofs.YtddbpnplbcjpgaaGreatDoor
open Go.RowKit
theorem ris_any (e:Nat) (pl:Int) (b:Bool) (w:World) (h:((e:Int) == 0)=b):Calls Tryz.prog 31 #[.agg #[.int .i64 e,.int .i64 pl]] w fun r w'=>r=.returned (.bool b)∧Below w.heap.size w w':=by
 have HW:Hid (Below w.heap.size w (w.alloc (.cells #[.int .i64 e,.int .i64 pl] 49))):=Lib.hid ((Below.refl _ _).alloc (Nat.le_refl _) _)
 go_enter Tryz.func31,Tryz.ntmps31
 go_wp2
 go_ret
 exact ⟨rfl,HW.out⟩
theorem rabare_any (n:Int) (w:World):Calls Tryz.prog 33 #[.int .i64 n] w fun e w'=>e=.returned (.agg #[.int .i64 n,.int .i64 (-1)])∧Below w.heap.size w w':=by
 go_enter Tryz.func33,Tryz.ntmps33
 go_wp2
 refine bodyPost_ret (v:=.agg #[.int .i64 n,.int .i64 (-1)]) (by simp [results,Tryz.results33,go_sem]) rfl ?_
 exact ⟨rfl,((Below.refl _ _).alloc (Nat.le_refl _) _)⟩
theorem ragood_any (w:World):Calls Tryz.prog 34 #[] w fun e w'=>e=.returned (.agg #[.int .i64 0,.int .i64 (-1)])∧Below w.heap.size w w':=by
 go_enter Tryz.func34,Tryz.ntmps34
 go_wp2
 refine bodyPost_ret (v:=.agg #[.int .i64 0,.int .i64 (-1)]) (by simp [results,Tryz.results34,go_sem]) rfl ?_
 exact ⟨rfl,((Below.refl _ _).alloc (Nat.le_refl _) _)⟩
structure RAC (w W:World) (R:Nat) (G:Nat→Prop) (s:LogS) (u:List Wr) (vh vl uf uh uw:Value):Prop where
 rowb:W.heap[w.heap.size]? = some (.cells #[uf,uh,uw] 30 (0,0))
 rowr:W.heap[w.heap.size + 1]? = some (.cells #[.int .i64 0,.int .i64 0] 49 (0,0))
 log:RefIn W R G s u vh vl
 bel:Below w.heap.size w W
 sz:w.heap.size + 2≤W.heap.size
 fl:∀ k,G k→k < w.heap.size
section
variable {w W:World} {R:Nat} {G:Nat→Prop} {s:LogS} {u:List Wr} {vh vl uf uh uw:Value}
theorem RAC.call {W':World} (h:RAC w W R G s u vh vl uf uh uw) (hb:Below W.heap.size W W'):RAC w W' R G s u vh vl uf uh uw :=
 ⟨(hb.block _ (by have:=h.sz;omega)).trans h.rowb,(hb.block _ (by have:=h.sz;omega)).trans h.rowr,h.log.below hb,h.bel.trans (hb.mono h.bel.size),Nat.le_trans h.sz hb.size,h.fl⟩
theorem RAC.pb (h:RAC w W R G s u vh vl uf uh uw):R < w.heap.size:=h.fl R h.log.inR
theorem RAC.cb (h:RAC w W R G s u vh vl uf uh uw):W.cell? ⟨w.heap.size,0,none⟩=some uf∧W.cell? ⟨w.heap.size,1,none⟩=some uh∧W.cell? ⟨w.heap.size,2,none⟩=some uw :=
 ⟨cell_of_row _ _ 0 _ _ _ h.rowb,cell_of_row _ _ 1 _ _ _ h.rowb,cell_of_row _ _ 2 _ _ _ h.rowb⟩
theorem RAC.cr (h:RAC w W R G s u vh vl uf uh uw):(W.cell? ⟨w.heap.size + 1,0,none⟩=some (.int .i64 0)∧W.cell? ⟨w.heap.size + 1,1,none⟩=some (.int .i64 0))∧W.frozen? ⟨w.heap.size + 1,0,none⟩=false∧W.frozen? ⟨w.heap.size + 1,1,none⟩=false :=
 ⟨⟨cell_of_row _ _ 0 _ _ _ h.rowr,cell_of_row _ _ 1 _ _ _ h.rowr⟩,Lib.frozen_of_heap h.rowr 0,Lib.frozen_of_heap h.rowr 1⟩
theorem RAC.out (h:RAC w W R G s u vh vl uf uh uw) (a b:Value):((W.setCell ⟨w.heap.size + 1,0,none⟩ a).setCell ⟨w.heap.size + 1,1,none⟩ b).heap[w.heap.size + 1]? = some (.cells #[a,b] 49 (0,0))∧Below w.heap.size w ((W.setCell ⟨w.heap.size + 1,0,none⟩ a).setCell ⟨w.heap.size + 1,1,none⟩ b) :=
 ⟨heap_setCell_same _ _ 1 _ _ b (heap_setCell_same _ _ 0 _ _ a h.rowr),(h.bel.setCell (by simp) _).setCell (by simp) _⟩
end
theorem undrewR {w w':World} (h:Below w.drew.heap.size w.drew w'):Below w.heap.size w w':=((Below.refl _ _).drew).trans h
theorem take_snoc_mem {l:List Wr} {j:Nat} {y:Wr} (hy:l[j]? = some y):(∀ {p:Int×Int},(∃ z∈l.take (j + 1),wid z=p)↔((∃ z∈l.take j,wid z=p)∨wid y=p))∧∀ z∈l.take (j + 1),z∈l.take j∨z=y:=by
 obtain ⟨h1,h2⟩:=List.getElem?_eq_some_iff.1 hy
 rw [List.take_succ_eq_append_getElem h1,h2]
 refine ⟨fun {p}=>⟨fun ⟨z,hz,e⟩=>?_,fun h=>?_⟩,fun z hz=>?_⟩
 · rcases List.mem_append.1 hz with hz | hz
   · exact .inl ⟨z,hz,e⟩
   · rw [List.mem_singleton.1 hz] at e;exact .inr e
 · rcases h with ⟨z,hz,e⟩ | e
   · exact ⟨z,List.mem_append_left _ hz,e⟩
   · exact ⟨y,List.mem_append_right _ (List.mem_singleton.2 rfl),e⟩
 · rcases List.mem_append.1 hz with hz | hz
   · exact .inl hz
   · exact .inr (List.mem_singleton.1 hz)
theorem freshW_perm {u ws:List Wr} (h:u.Perm ws) (b:List Wr):freshW u b=freshW ws b:=by
 unfold freshW
 congr 1
 funext x
 congr 1
 rw [Bool.eq_iff_iff,List.any_eq_true,List.any_eq_true]
 exact ⟨fun ⟨y,hy,e⟩=>⟨y,h.mem_iff.1 hy,e⟩,fun ⟨y,hy,e⟩=>⟨y,h.mem_iff.2 hy,e⟩⟩
theorem freshW_snoc {u l:List Wr} {k:Nat} {x:Wr} (hx:l[k]? = some x):freshW u (l.take (k + 1))=freshW u (l.take k) ++ (if (∃ y∈u,wid y=wid x) then [] else [x]):=by
 obtain ⟨h1,h2⟩:=List.getElem?_eq_some_iff.1 hx
 rw [List.take_succ_eq_append_getElem h1,h2]
 unfold freshW
 rw [List.filter_append]
 congr 1
 by_cases h:∃ y∈u,wid y=wid x
 · have hb : u.any (fun y => decide (wid y = wid x)) = true := by
     rw [List.any_eq_true];obtain ⟨y,hy,e⟩:=h;exact ⟨y,hy,by simpa using e⟩
   rw [if_pos h,List.filter_cons_of_neg (by simp [hb])];rfl
 · have hb : u.any (fun y => decide (wid y = wid x)) = false := by
     rw [Bool.eq_false_iff];intro hc;rw [List.any_eq_true] at hc;obtain ⟨y,hy,e⟩:=hc;exact h ⟨y,hy,by simpa using e⟩
   rw [if_neg h,List.filter_cons_of_pos (by simp [hb])];rfl
theorem freshW_le (u b:List Wr):(freshW u b).length≤b.length:=List.length_filter_le _ _
theorem clash_perm {u ws:List Wr} (h:u.Perm ws) {x:Wr}:clash u x↔clash ws x:=⟨fun ⟨y,hy,e⟩=>⟨y,h.mem_iff.1 hy,e⟩,fun ⟨y,hy,e⟩=>⟨y,h.mem_iff.2 hy,e⟩⟩
theorem acc_perm {u:List Wr} {s:LogS} (h:u.Perm s.ws) (b:List Wr) (e:List Ent):(u ++ freshW u b).Perm (accS s e b).ws:=by
 rw [freshW_perm h]
 exact (h.append_right _).trans (List.mergeSort_perm _ _).symm
def RAccIs (w:World) (R:Nat) (G:Nat→Prop) (s:LogS) (f h:List Ent) (b:List Wr) (e:Ending) (w':World):Prop :=
 ((accE s f h b).1≠0∧e=.returned (.tuple #[.int .i64 0,.agg #[.int .i64 ((accE s f h b).1:Nat),.int .i64 (accE s f h b).2]])∧Below w.heap.size w w') ∨
 ((accE s f h b).1=0∧e=.returned (.tuple #[.int .i64 (freshW s.ws b).length,.agg #[.int .i64 0,.int .i64 (-1)]])∧∃ G',(∀ k,G' k→G k∨w.heap.size≤k)∧RefAt w' R G' (accS s h b)∧But G w w')
set_option maxRecDepth 100000 in
set_option maxHeartbeats 16000000 in
theorem raccept_any (R:Nat) (G:Nat→Prop) (s:LogS) (uf uh uw:Value) (f h:List Ent) (b:List Wr) (w:World) (hl:RefAt w R G s) (ok:LogOk s) (hx:BatIs w uf uh uw f h b) :
   Calls Tryz.prog 9 #[.pointer (some ⟨R,0,none⟩),.agg #[uf,uh,uw]] w (RAccIs w R G s f h b):=by
 obtain ⟨u,vh,vl,hl⟩:=hl
 have HOK:=Lib.hid ok
 obtain ⟨a,c,rfl,_⟩:=hl.ents.is.form
 obtain ⟨n,hn⟩:∃ n,n=s.hv.length:=⟨_,rfl⟩
 rw [←hn] at hl
 obtain ⟨al,cl,rfl,_⟩:=hl.wrs.is.form
 obtain ⟨nl,hnl⟩:∃ nl,nl=u.length:=⟨_,rfl⟩
 rw [←hnl] at hl
 have hl3:nl≤300:=by rw [hnl,hl.len];exact ok.len
 have HNL:=Lib.hid hnl
 have HPE:Hid (u.Perm s.ws):=Lib.hid hl.perm
 obtain ⟨af,cf,rfl,_⟩:=hx.1.form
 obtain ⟨nf,hnf⟩:∃ nf,nf=f.length:=⟨_,rfl⟩
 rw [←hnf] at hx
 obtain ⟨ah,ch,rfl,_⟩:=hx.2.1.form
 obtain ⟨nh,hnh⟩:∃ nh,nh=h.length:=⟨_,rfl⟩
 rw [←hnh] at hx
 obtain ⟨aw,cw,rfl,hfw⟩:=hx.2.2.1.form
 obtain ⟨nb,hnb⟩:∃ nb,nb=b.length:=⟨_,rfl⟩
 rw [←hnb] at hx
 have HNB:=Lib.hid hnb
 rw [←hnf,←hnh,←hnb]
 have HX:=Lib.hid hx
 have HFW:=Lib.hid hfw
 have HHL:Hid (s.hv.length≤9223372036854775807):=Lib.hid (by have:=ok.hv.1;omega)
 obtain ⟨e0,pl0,hbf⟩:∃ e pl,batF f h b=(e,pl):=⟨_,_,rfl⟩
 have HBF:=Lib.hid hbf
 have HR:Hid (RAC w ((w.alloc (.cells #[.slice af nf cf,.slice ah nh ch,.slice aw nb cw] 30)).alloc (.cells #[.int .i64 0,.int .i64 0] 49)) R G s u (.slice a n c) (.slice al nl cl) (.slice af nf cf) (.slice ah nh ch) (.slice aw nb cw)):=Lib.hid
   ⟨by rw [Below.heap_alloc _ _ _ (by simp)];exact heap_alloc_new _ _,by have:=heap_alloc_new (w.alloc (.cells #[.slice af nf cf,.slice ah nh ch,.slice aw nb cw] 30)) (.cells #[.int .i64 0,.int .i64 0] 49);rwa [World.size_alloc] at this,
     (hl.below ((Below.refl _ _).alloc (Nat.le_refl _) _)).below ((Below.refl _ _).alloc (Nat.le_refl _) _),((Below.refl _ _).alloc (Nat.le_refl _) _).alloc (by simp) _,by simp,hl.lt⟩
 have HXE:Hid (∀ w',Below w.heap.size w w'→BatIs w' (.slice af nf cf) (.slice ah nh ch) (.slice aw nb cw) f h b):=Lib.hid (fun w' hb=>HX.out.below hb)
 clear hl ok hx hfw hn hnl hnf hnh hnb hbf
 have hpb:=HR.out.pb
 have hne:¬ w.heap.size=R:=by omega
 have hne2:¬ R=w.heap.size:=by omega
 have hne3:¬ w.heap.size + 1=R:=by omega
 have hne4:¬ R=w.heap.size + 1:=by omega
 go_enter Tryz.func9,Tryz.ntmps9
 obtain ⟨b0,b1,b2⟩:=HR.out.cb
 go_wp2_with fail
 generalize (w.alloc (.cells #[.slice af nf cf,.slice ah nh ch,.slice aw nb cw] 30)).alloc (.cells #[.int .i64 0,.int .i64 0] 49)=W at HR b0 b1 b2 ⊢
 clear b0 b1 b2
 refine (rbright_any _ _ _ f h b W (HXE.out _ HR.out.bel).1 (HXE.out _ HR.out.bel).2.1 (HXE.out _ HR.out.bel).2.2.1 HX.out.2.2.2.1 HX.out.2.2.2.2.1 HX.out.2.2.2.2.2.2).mono ?_
 rintro r w1 ⟨rfl,hb⟩
 rw [HBF.out]
 have HR1:=Lib.hid (HR.out.call hb)
 have HR2:=Lib.hid (HR1.out.call ((Below.refl _ _).alloc (Nat.le_refl _) (.cells #[.int .i64 (e0:Int),.int .i64 pl0] 49)))
 have HT:Hid ((w1.alloc (.cells #[.int .i64 (e0:Int),.int .i64 pl0] 49)).heap[w1.heap.size]? = some (.cells #[.int .i64 (e0:Int),.int .i64 pl0] 49 (0,0))):=Lib.hid (heap_alloc_new _ _)
 have HTZ:Hid (w1.heap.size < (w1.alloc (.cells #[.int .i64 (e0:Int),.int .i64 pl0] 49)).heap.size):=Lib.hid (by simp)
 have HS1:=Lib.hid HR1.out.sz
 clear hb HR
 have t0:=cell_of_row _ _ 0 _ _ _ HT.out
 have t1:=cell_of_row _ _ 1 _ _ _ HT.out
 simp only [List.getElem?_toArray,List.getElem?_cons_zero,List.getElem?_cons_succ] at t0 t1
 unfold faultV
 simp only
 go_wp2_with fail
 generalize w1.alloc (.cells #[.int .i64 (e0:Int),.int .i64 pl0] 49)=w2 at HR2 HT HTZ t0 t1 ⊢
 obtain ⟨T,hTs⟩:∃ T,T=w1.heap.size:=⟨_,rfl⟩
 have hnT:¬ w.heap.size + 1=T:=by have:=HS1.out;omega
 have hnT2:¬ T=w.heap.size + 1:=by omega
 rw [←hTs] at HT HTZ t0 t1 ⊢
 clear hTs t0 t1 HR1 HS1
 by_cases hq0:e0=0
 · subst hq0
   refine (ris_any 0 pl0 true w2 (by simp)).mono ?_
   rintro r w3 ⟨rfl,hb⟩
   have HR3:=Lib.hid (HR2.out.call hb)
   clear hb HT HTZ HR2 hnT hnT2
   go_wp2_with fail
   obtain ⟨cv,hcv⟩:∃ x,covB s.hv f=x:=⟨_,rfl⟩
   have HCV:=Lib.hid hcv
   clear hcv
   have HX3:=Lib.hid (HXE.out _ (HR3.out.call (Below.refl _ _).drew).bel).1
   have HI3:=Lib.hid (HR3.out.call (Below.refl _ _).drew).log.ents.is
   have k0:w3.drew.cell? ⟨R,1,none⟩=some (.slice a n c)∧w3.drew.cell? ⟨w.heap.size,0,none⟩=some (.slice af nf cf):=⟨(HR3.out.call (Below.refl _ _).drew).log.c1,(HR3.out.call (Below.refl _ _).drew).cb.1⟩
   have HFL:Hid (f.length≤9223372036854775807):=Lib.hid HX.out.2.2.2.1
   have HHH:Hid (h.length≤9223372036854775807):=Lib.hid HX.out.2.2.2.2.1
   go_region_held3 (fun w'=>w'.cell? ⟨R,1,none⟩=some (.slice a n c)∧w'.cell? ⟨w.heap.size,0,none⟩=some (.slice af nf cf)) (first | exact k0 | exact k1 | fail) (first
     | (go_at_call 32;((with_reducible refine (rcov_as (.slice a n c) (.slice af nf cf) s.hv f cv w3.drew HI3.out HX3.out HHL.out HFL.out HCV.out).mono ?_);rintro r w4 ⟨rfl,hb4⟩;have HR4:=Lib.hid (HR3.out.call (undrewR hb4));have k1:w4.cell? ⟨R,1,none⟩=some (.slice a n c)∧w4.cell? ⟨w.heap.size,0,none⟩=some (.slice af nf cf):=⟨HR4.out.log.c1,HR4.out.cb.1⟩;clear hb4)))
   clear k0 k1 HX3 HI3
   cases cv with
   | false =>
     have HE:Hid (accE s f h b=(10,-1)):=Lib.hid (accE_o (by rw [HBF.out]) HCV.out)
     go_wp2_with fail
     refine (rabare_any 10 _).mono ?_
     rintro r wX ⟨rfl,hbX⟩
     have HRX:=Lib.hid (HR4.out.call hbX)
     clear hbX
     obtain ⟨⟨r0,r1⟩,g0,g1⟩:=HRX.out.cr
     go_wp2
     obtain ⟨hR,hbR⟩:=HRX.out.out (.int .i64 10) (.int .i64 (-1))
     obtain ⟨V,hV⟩:∃ V,V=(wX.setCell ⟨w.heap.size + 1,0,none⟩ (.int .i64 10)).setCell ⟨w.heap.size + 1,1,none⟩ (.int .i64 (-1)):=⟨_,rfl⟩
     rw [←hV] at hR hbR ⊢
     have hR2:=hR
     have hbR2:=hbR
     clear hV
     have q0:=cell_of_row _ _ 0 _ _ _ hR2
     have q1:=cell_of_row _ _ 1 _ _ _ hR2
     refine bodyPost_ret (v:=.tuple #[.int .i64 0,.agg #[.int .i64 10,.int .i64 (-1)]]) (by simp [results,Tryz.results9,go_sem,q0,q1]) rfl ?_
     exact .inl (by rw [HE.out];exact ⟨by simp,rfl,hbR2⟩)
   | true =>
     obtain ⟨ej,jj,hj⟩:∃ e j,joinR s.hv h=(e,j):=⟨_,_,rfl⟩
     have HJ:=Lib.hid hj
     clear hj
     have HX4:=Lib.hid (HXE.out _ (HR4.out.call (Below.refl _ _).drew).bel).2.1
     have HI4:=Lib.hid (HR4.out.call (Below.refl _ _).drew).log.ents.is
     go_wp2_with fail
     have k0:w4.drew.cell? ⟨R,1,none⟩=some (.slice a n c)∧w4.drew.cell? ⟨w.heap.size,1,none⟩=some (.slice ah nh ch):=⟨(HR4.out.call (Below.refl _ _).drew).log.c1,(HR4.out.call (Below.refl _ _).drew).cb.2.1⟩
     go_region_held3 (fun w'=>w'.cell? ⟨R,1,none⟩=some (.slice a n c)∧w'.cell? ⟨w.heap.size,1,none⟩=some (.slice ah nh ch)) (first | exact k0 | exact k1 | fail) (first
       | (go_at_call 25;((with_reducible refine (rvjoin_any (.slice a n c) (.slice ah nh ch) s.hv h w4.drew HI4.out HX4.out HHL.out HHH.out).mono ?_);rintro r w5 ⟨v5,rfl,ho5,hb5⟩;rw [HJ.out] at ho5 ⊢;obtain ⟨au,cu,rfl,_⟩:=ho5.is.form;obtain ⟨nj,hnj⟩:∃ nj,nj=jj.length:=⟨_,rfl⟩;rw [←hnj] at ho5 ⊢;clear hnj;have HR5:=Lib.hid (HR4.out.call (undrewR hb5));have HO5:Hid (ownsE w5 w4.heap.size (.slice au nj cu) jj):=Lib.hid ho5;have HZ5:Hid (w4.heap.size≤w5.heap.size):=Lib.hid (undrewR hb5).size;have k1:w5.cell? ⟨R,1,none⟩=some (.slice a n c)∧w5.cell? ⟨w.heap.size,1,none⟩=some (.slice ah nh ch):=⟨HR5.out.log.c1,HR5.out.cb.2.1⟩;clear hb5 ho5)))
     clear k0 k1 HX4 HI4
     by_cases hej:ej=0
     · subst hej
       rw [show ((0:Nat):Int)=0 from rfl]
       have HAE:Hid (accE s f h b=togE s.ws b):=Lib.hid (accE_t (by rw [HBF.out]) HCV.out (by rw [HJ.out]))
       have HB60:Hid (b.length≤60):=Lib.hid ((batF_ok.1 (by rw [HBF.out])).2.1)
       have HB60n:nb≤60:=by rw [HNB.out];exact HB60.out
       have p2:=HR5.out.cb.2.2
       go_wp2_with fail
       go_loopw [9,47] (fun v i wr=>∃ k:Nat,k≤nb∧i=.int .i64 k∧ownsW wr w5.heap.size v (freshW u (b.take k))∧(∀ y∈b.take k,¬ clash u y)∧Below w5.heap.size w5 wr) (fun _ i _=>nb - (intOf i).toNat)
       case atStart=>exact ⟨0,by omega,rfl,ownsW_nil _ _,(fun y hy=>by cases hy),Below.refl _ _⟩
       case round =>
         obtain ⟨k,hk,rfl,ho,hnc,hbl⟩:=hrel
         rename World=>wq
         have HO:=Lib.hid ho
         have HNC:=Lib.hid hnc
         have HBL:=Lib.hid hbl
         have HRQ:=Lib.hid (HR5.out.call hbl)
         clear ho hnc hbl p2
         by_cases hlt:k < nb
         · have bt:decide ((k:Int) < (nb:Int))=true:=by simpa using hlt
           obtain ⟨x, hx⟩ : ∃ x, b[k]? = some x := ⟨b[k]'(by rw [← HNB.out]; exact hlt), List.getElem?_eq_getElem _⟩
           obtain ⟨bb,boff,rfl,hbb,f0,f1,f2,f3,f4,f5⟩:=HFW.out k x hx
           have HXK:=Lib.hid hx
           obtain ⟨T,Rp,K,key,val,N⟩:=x
           simp only at f0 f1 f2 f3 f4 f5
           have e0:=(HRQ.out.bel.cell (p:=⟨bb,boff + k * 6,none⟩) hbb).trans f0
           have e1:=(HRQ.out.bel.cell (p:=⟨bb,boff + k * 6 + 1,none⟩) hbb).trans f1
           have e2:=(HRQ.out.bel.cell (p:=⟨bb,boff + k * 6 + 2,none⟩) hbb).trans f2
           have e3:=(HRQ.out.bel.cell (p:=⟨bb,boff + k * 6 + 3,none⟩) hbb).trans f3
           have e4:=(HRQ.out.bel.cell (p:=⟨bb,boff + k * 6 + 4,none⟩) hbb).trans f4
           have e5:=(HRQ.out.bel.cell (p:=⟨bb,boff + k * 6 + 5,none⟩) hbb).trans f5
           have HRA:=Lib.hid (HRQ.out.call ((Below.refl _ _).alloc (Nat.le_refl _) (.cells #[.int .i64 T,.int .i64 Rp,.int .i64 K,.string key,.string val,.int .i64 N] 26)))
           have HBA:Hid (Below w5.heap.size w5 (wq.alloc (.cells #[.int .i64 T,.int .i64 Rp,.int .i64 K,.string key,.string val,.int .i64 N] 26))):=Lib.hid (HBL.out.alloc HBL.out.size _)
           have HOA:=Lib.hid (HO.out.alloc (.cells #[.int .i64 T,.int .i64 Rp,.int .i64 K,.string key,.string val,.int .i64 N] 26))
           have HROW:Hid ((wq.alloc (.cells #[.int .i64 T,.int .i64 Rp,.int .i64 K,.string key,.string val,.int .i64 N] 26)).heap[wq.heap.size]? = some (.cells #[.int .i64 T,.int .i64 Rp,.int .i64 K,.string key,.string val,.int .i64 N] 26 (0,0))):=Lib.hid (heap_alloc_new _ _)
           have HQZ:Hid (wq.heap.size < (wq.alloc (.cells #[.int .i64 T,.int .i64 Rp,.int .i64 K,.string key,.string val,.int .i64 N] 26)).heap.size):=Lib.hid (by simp)
           have l2:=HRA.out.log.c2
           clear hx f0 f1 f2 f3 f4 f5
           go_wp2_with fail
           generalize wq.alloc (.cells #[.int .i64 T,.int .i64 Rp,.int .i64 K,.string key,.string val,.int .i64 N] 26)=wA at HRA HBA HOA HROW HQZ l2 ⊢
           obtain ⟨Q,hQ⟩:∃ Q,Q=wq.heap.size:=⟨_,rfl⟩
           rw [←hQ] at HROW HQZ ⊢
           clear hQ e0 e1 e2 e3 e4 e5 l2 HRQ HBL HO
           obtain ⟨au',cu',hee,hfu⟩:=HRA.out.log.wrs.is.form
           obtain ⟨hee1,hee2,hee3⟩:=Value.slice.inj hee
           subst hee1 hee3
           clear hee hee2
           have HFU:=Lib.hid hfu
           clear hfu
           go_loopw [12,57] (fun q i wr=>∃ (j:Nat) (is:Bool),j≤nl∧i=.int .i64 j∧q=.bool is∧(is=true↔∃ y∈u.take j,wid y=(T,Rp))∧(∀ y∈u.take j,wid y=(T,Rp)→y=⟨T,Rp,K,key,val,N⟩)∧Below wA.heap.size wA wr) (fun _ i _=>nl - (intOf i).toNat)
           case atStart=>exact ⟨0,false,by omega,rfl,rfl,⟨fun h=>(by cases h),fun ⟨y,hy,_⟩=>(by cases hy)⟩,(fun y hy=>by cases hy),Below.refl _ _⟩
           case round =>
             obtain ⟨j,is,hj,rfl,rfl,his,hno,hbo⟩:=hrel
             have HIS:=Lib.hid his
             have HNO:=Lib.hid hno
             have HBO:=Lib.hid hbo
             clear his hno hbo
             have hrow:=(HBO.out.block _ HQZ.out).trans HROW.out
             by_cases hjl:j < nl
             · have bj:decide ((j:Int) < (nl:Int))=true:=by simpa using hjl
               obtain ⟨y, hy⟩ : ∃ y, u[j]? = some y := ⟨u[j]'(by rw [← HNL.out]; exact hjl), List.getElem?_eq_getElem _⟩
               obtain ⟨bu,uoff,rfl,hbu,y0,y1,y2,y3,y4,y5⟩:=HFU.out j y hy
               have HYJ:=Lib.hid hy
               have HST:=Lib.hid (take_snoc_mem hy)
               obtain ⟨T2,R2,K2,key2,val2,N2⟩:=y
               simp only at y0 y1 y2 y3 y4 y5
               have v0:=(HBO.out.cell (p:=⟨bu,uoff + j * 6,none⟩) hbu).trans y0
               have v1:=(HBO.out.cell (p:=⟨bu,uoff + j * 6 + 1,none⟩) hbu).trans y1
               have v2:=(HBO.out.cell (p:=⟨bu,uoff + j * 6 + 2,none⟩) hbu).trans y2
               have v3:=(HBO.out.cell (p:=⟨bu,uoff + j * 6 + 3,none⟩) hbu).trans y3
               have v4:=(HBO.out.cell (p:=⟨bu,uoff + j * 6 + 4,none⟩) hbu).trans y4
               have v5:=(HBO.out.cell (p:=⟨bu,uoff + j * 6 + 5,none⟩) hbu).trans y5
               have HBB:Hid (Below wA.heap.size wA (wr.alloc (.cells #[.int .i64 T2,.int .i64 R2,.int .i64 K2,.string key2,.string val2,.int .i64 N2] 26))):=Lib.hid (HBO.out.alloc HBO.out.size _)
               have hrow2:=(HBB.out.block _ HQZ.out).trans HROW.out
               have x0:=cell_of_row _ _ 0 _ _ _ hrow2
               have x1:=cell_of_row _ _ 1 _ _ _ hrow2
               have x2:=cell_of_row _ _ 2 _ _ _ hrow2
               have x3:=cell_of_row _ _ 3 _ _ _ hrow2
               have x4:=cell_of_row _ _ 4 _ _ _ hrow2
               have x5:=cell_of_row _ _ 5 _ _ _ hrow2
               simp only [List.getElem?_toArray,List.getElem?_cons_zero,List.getElem?_cons_succ] at x0 x1 x2 x3 x4 x5
               have hrow3:(wr.alloc (.cells #[.int .i64 T2,.int .i64 R2,.int .i64 K2,.string key2,.string val2,.int .i64 N2] 26)).heap[wr.heap.size]? = some (.cells #[.int .i64 T2,.int .i64 R2,.int .i64 K2,.string key2,.string val2,.int .i64 N2] 26 (0,0)):=heap_alloc_new _ _
               have z0:=cell_of_row _ _ 0 _ _ _ hrow3
               have z1:=cell_of_row _ _ 1 _ _ _ hrow3
               have z2:=cell_of_row _ _ 2 _ _ _ hrow3
               have z3:=cell_of_row _ _ 3 _ _ _ hrow3
               have z4:=cell_of_row _ _ 4 _ _ _ hrow3
               have z5:=cell_of_row _ _ 5 _ _ _ hrow3
               simp only [List.getElem?_toArray,List.getElem?_cons_zero,List.getElem?_cons_succ] at z0 z1 z2 z3 z4 z5
               clear hy y0 y1 y2 y3 y4 y5 hrow hrow2 hrow3
               by_cases hid:T2=T∧R2=Rp
               · obtain ⟨rfl,rfl⟩:=hid
                 by_cases he:K2=K
                 · subst he
                   by_cases he:key2=key
                   · subst he
                     by_cases he:val2=val
                     · subst he
                       by_cases he:N2=N
                       · subst he
                         cases is with
                         | true =>
                           go_wp2
                           go_roundw
                           · exact ⟨j + 1,true,by omega,by go_num,rfl,by rw [HST.out.1];exact ⟨fun _=>.inr rfl,fun _=>rfl⟩,fun y hy e=>(HST.out.2 y hy).elim (fun h=>HNO.out y h e) (fun h=>h),HBB.out⟩
                           · simp [intOf];omega
                         | false =>
                           go_wp2
                           go_roundw
                           · exact ⟨j + 1,true,by omega,by go_num,rfl,by rw [HST.out.1];exact ⟨fun _=>.inr rfl,fun _=>rfl⟩,fun y hy e=>(HST.out.2 y hy).elim (fun h=>HNO.out y h e) (fun h=>h),HBB.out⟩
                           · simp [intOf];omega
                       · have HE:Hid (accE s f h b=(9,(k:Int))):=Lib.hid (HAE.out.trans (togE_twice (fun y hy c=>HNC.out y hy ((clash_perm HPE.out).2 c)) HXK.out ((clash_perm HPE.out).1 ⟨_,List.mem_of_getElem? HYJ.out,rfl,fun e=>by simp only [Wr.mk.injEq] at e;exact he e.2.2.2.2.2⟩)))
                         have n1:(N2 == N)=false:=by simpa using he
                         have n2:(N2 != N)=true:=by simpa using he
                         clear he
                         have HRB:=Lib.hid (HRA.out.call HBB.out)
                         obtain ⟨⟨r0,r1⟩,g0,g1⟩:=HRB.out.cr
                         go_wp2
                         obtain ⟨hR,hbR⟩:=HRB.out.out (.int .i64 9) (.int .i64 (k:Int))
                         obtain ⟨V,hV⟩:∃ V,V=((wr.alloc (.cells #[.int .i64 T2,.int .i64 R2,.int .i64 K2,.string key2,.string val2,.int .i64 N2] 26)).setCell ⟨w.heap.size + 1,0,none⟩ (.int .i64 9)).setCell ⟨w.heap.size + 1,1,none⟩ (.int .i64 (k:Int)):=⟨_,rfl⟩
                         rw [←hV] at hR hbR ⊢
                         have hR2:=hR
                         have hbR2:=hbR
                         clear hV
                         have q0:=cell_of_row _ _ 0 _ _ _ hR2
                         have q1:=cell_of_row _ _ 1 _ _ _ hR2
                         refine bodyPost_ret (v:=.tuple #[.int .i64 0,.agg #[.int .i64 9,.int .i64 (k:Int)]]) (by simp [results,Tryz.results9,go_sem,q0,q1]) rfl ?_
                         exact .inl (by rw [HE.out];exact ⟨by simp,rfl,hbR2⟩)
                     · have HE:Hid (accE s f h b=(9,(k:Int))):=Lib.hid (HAE.out.trans (togE_twice (fun y hy c=>HNC.out y hy ((clash_perm HPE.out).2 c)) HXK.out ((clash_perm HPE.out).1 ⟨_,List.mem_of_getElem? HYJ.out,rfl,fun e=>by simp only [Wr.mk.injEq] at e;exact he e.2.2.2.2.1⟩)))
                       have n1:(val2.toList == val.toList)=false:=by rw [ByteArray.toList_eq,ByteArray.toList_eq,beq_eq_false_iff_ne];intro e9;exact he (bytes_ext e9)
                       have n2:(val2.toList != val.toList)=true:=by rw [bne,n1];rfl
                       clear he
                       have HRB:=Lib.hid (HRA.out.call HBB.out)
                       obtain ⟨⟨r0,r1⟩,g0,g1⟩:=HRB.out.cr
                       go_wp2
                       obtain ⟨hR,hbR⟩:=HRB.out.out (.int .i64 9) (.int .i64 (k:Int))
                       obtain ⟨V,hV⟩:∃ V,V=((wr.alloc (.cells #[.int .i64 T2,.int .i64 R2,.int .i64 K2,.string key2,.string val2,.int .i64 N2] 26)).setCell ⟨w.heap.size + 1,0,none⟩ (.int .i64 9)).setCell ⟨w.heap.size + 1,1,none⟩ (.int .i64 (k:Int)):=⟨_,rfl⟩
                       rw [←hV] at hR hbR ⊢
                       have hR2:=hR
                       have hbR2:=hbR
                       clear hV
                       have q0:=cell_of_row _ _ 0 _ _ _ hR2
                       have q1:=cell_of_row _ _ 1 _ _ _ hR2
                       refine bodyPost_ret (v:=.tuple #[.int .i64 0,.agg #[.int .i64 9,.int .i64 (k:Int)]]) (by simp [results,Tryz.results9,go_sem,q0,q1]) rfl ?_
                       exact .inl (by rw [HE.out];exact ⟨by simp,rfl,hbR2⟩)
                   · have HE:Hid (accE s f h b=(9,(k:Int))):=Lib.hid (HAE.out.trans (togE_twice (fun y hy c=>HNC.out y hy ((clash_perm HPE.out).2 c)) HXK.out ((clash_perm HPE.out).1 ⟨_,List.mem_of_getElem? HYJ.out,rfl,fun e=>by simp only [Wr.mk.injEq] at e;exact he e.2.2.2.1⟩)))
                     have n1:(key2.toList == key.toList)=false:=by rw [ByteArray.toList_eq,ByteArray.toList_eq,beq_eq_false_iff_ne];intro e9;exact he (bytes_ext e9)
                     have n2:(key2.toList != key.toList)=true:=by rw [bne,n1];rfl
                     clear he
                     have HRB:=Lib.hid (HRA.out.call HBB.out)
                     obtain ⟨⟨r0,r1⟩,g0,g1⟩:=HRB.out.cr
                     go_wp2
                     obtain ⟨hR,hbR⟩:=HRB.out.out (.int .i64 9) (.int .i64 (k:Int))
                     obtain ⟨V,hV⟩:∃ V,V=((wr.alloc (.cells #[.int .i64 T2,.int .i64 R2,.int .i64 K2,.string key2,.string val2,.int .i64 N2] 26)).setCell ⟨w.heap.size + 1,0,none⟩ (.int .i64 9)).setCell ⟨w.heap.size + 1,1,none⟩ (.int .i64 (k:Int)):=⟨_,rfl⟩
                     rw [←hV] at hR hbR ⊢
                     have hR2:=hR
                     have hbR2:=hbR
                     clear hV
                     have q0:=cell_of_row _ _ 0 _ _ _ hR2
                     have q1:=cell_of_row _ _ 1 _ _ _ hR2
                     refine bodyPost_ret (v:=.tuple #[.int .i64 0,.agg #[.int .i64 9,.int .i64 (k:Int)]]) (by simp [results,Tryz.results9,go_sem,q0,q1]) rfl ?_
                     exact .inl (by rw [HE.out];exact ⟨by simp,rfl,hbR2⟩)
                 · have HE:Hid (accE s f h b=(9,(k:Int))):=Lib.hid (HAE.out.trans (togE_twice (fun y hy c=>HNC.out y hy ((clash_perm HPE.out).2 c)) HXK.out ((clash_perm HPE.out).1 ⟨_,List.mem_of_getElem? HYJ.out,rfl,fun e=>by simp only [Wr.mk.injEq] at e;exact he e.2.2.1⟩)))
                   have n1:(K2 == K)=false:=by simpa using he
                   have n2:(K2 != K)=true:=by simpa using he
                   clear he
                   have HRB:=Lib.hid (HRA.out.call HBB.out)
                   obtain ⟨⟨r0,r1⟩,g0,g1⟩:=HRB.out.cr
                   go_wp2
                   obtain ⟨hR,hbR⟩:=HRB.out.out (.int .i64 9) (.int .i64 (k:Int))
                   obtain ⟨V,hV⟩:∃ V,V=((wr.alloc (.cells #[.int .i64 T2,.int .i64 R2,.int .i64 K2,.string key2,.string val2,.int .i64 N2] 26)).setCell ⟨w.heap.size + 1,0,none⟩ (.int .i64 9)).setCell ⟨w.heap.size + 1,1,none⟩ (.int .i64 (k:Int)):=⟨_,rfl⟩
                   rw [←hV] at hR hbR ⊢
                   have hR2:=hR
                   have hbR2:=hbR
                   clear hV
                   have q0:=cell_of_row _ _ 0 _ _ _ hR2
                   have q1:=cell_of_row _ _ 1 _ _ _ hR2
                   refine bodyPost_ret (v:=.tuple #[.int .i64 0,.agg #[.int .i64 9,.int .i64 (k:Int)]]) (by simp [results,Tryz.results9,go_sem,q0,q1]) rfl ?_
                   exact .inl (by rw [HE.out];exact ⟨by simp,rfl,hbR2⟩)
               · have hidb : (T2 == T && R2 == Rp) = false := by
                   rw [Bool.eq_false_iff];intro hc;simp only [Bool.and_eq_true,beq_iff_eq] at hc;exact hid hc
                 have HID:=Lib.hid hid
                 clear hid
                 by_cases ht:T2=T
                 · subst ht
                   have hrb:(R2 == Rp)=false:=by simp only [beq_self_eq_true,Bool.true_and] at hidb;exact hidb
                   clear hidb
                   cases is with
                   | true =>
                     go_wp2
                     go_roundw
                     · exact ⟨j + 1,_,by omega,by go_num,rfl,by rw [HST.out.1];exact ⟨fun h=>.inl (HIS.out.1 h),fun h=>h.elim HIS.out.2 (fun e=>absurd (Prod.mk.inj e) HID.out)⟩,fun y hy e=>(HST.out.2 y hy).elim (fun h=>HNO.out y h e) (fun h=>absurd (by rw [h] at e;exact Prod.mk.inj e) HID.out),HBB.out⟩
                     · simp [intOf];omega
                   | false =>
                     go_wp2
                     go_roundw
                     · exact ⟨j + 1,_,by omega,by go_num,rfl,by rw [HST.out.1];exact ⟨fun h=>.inl (HIS.out.1 h),fun h=>h.elim HIS.out.2 (fun e=>absurd (Prod.mk.inj e) HID.out)⟩,fun y hy e=>(HST.out.2 y hy).elim (fun h=>HNO.out y h e) (fun h=>absurd (by rw [h] at e;exact Prod.mk.inj e) HID.out),HBB.out⟩
                     · simp [intOf];omega
                 · have htb:(T2 == T)=false:=by simpa using ht
                   clear hidb ht
                   cases is with
                   | true =>
                     go_wp2
                     go_roundw
                     · exact ⟨j + 1,_,by omega,by go_num,rfl,by rw [HST.out.1];exact ⟨fun h=>.inl (HIS.out.1 h),fun h=>h.elim HIS.out.2 (fun e=>absurd (Prod.mk.inj e) HID.out)⟩,fun y hy e=>(HST.out.2 y hy).elim (fun h=>HNO.out y h e) (fun h=>absurd (by rw [h] at e;exact Prod.mk.inj e) HID.out),HBB.out⟩
                     · simp [intOf];omega
                   | false =>
                     go_wp2
                     go_roundw
                     · exact ⟨j + 1,_,by omega,by go_num,rfl,by rw [HST.out.1];exact ⟨fun h=>.inl (HIS.out.1 h),fun h=>h.elim HIS.out.2 (fun e=>absurd (Prod.mk.inj e) HID.out)⟩,fun y hy e=>(HST.out.2 y hy).elim (fun h=>HNO.out y h e) (fun h=>absurd (by rw [h] at e;exact Prod.mk.inj e) HID.out),HBB.out⟩
                     · simp [intOf];omega
             · have bj:decide ((j:Int) < (nl:Int))=false:=by simp;omega
               have hjn:j=nl:=by omega
               subst hjn
               have hut:u.take j=u:=List.take_of_length_le (by rw [←HNL.out];exact Nat.le_refl _)
               have HIA:Hid (is=true↔∃ y∈u,wid y=(T,Rp)):=Lib.hid (by have h:=HIS.out;rw [hut] at h;exact h)
               have HNA:Hid (¬ clash u ⟨T,Rp,K,key,val,N⟩):=Lib.hid (fun ⟨y,hy,e,hn⟩=>hn (HNO.out y (by rw [hut];exact hy) e))
               have HSX:=Lib.hid (take_snoc_mem HXK.out)
               have HNX:Hid (∀ y∈b.take (k + 1),¬ clash u y):=Lib.hid (fun y hy=>(HSX.out.2 y hy).elim (HNC.out y) (fun e=>by rw [e];exact HNA.out))
               have HFS:=Lib.hid (freshW_snoc (u:=u) HXK.out)
               have HOW:=Lib.hid (HOA.out.below HBO.out)
               have HBX:Hid (Below w5.heap.size w5 wr):=Lib.hid (HBA.out.trans (HBO.out.mono HBA.out.size))
               have HFL2:Hid ((freshW u (b.take k)).length≤60):=Lib.hid (Nat.le_trans (freshW_le _ _) (Nat.le_trans (List.length_take_le' _ _) HB60.out))
               clear hut HIS HNO
               cases is with
               | true =>
                 have HF1:Hid (freshW u (b.take (k + 1))=freshW u (b.take k)):=Lib.hid (by rw [HFS.out,if_pos (show ∃ y∈u,wid y=wid ⟨T,Rp,K,key,val,N⟩ from HIA.out.1 rfl),List.append_nil])
                 go_wp2_with fail
                 go_roundw
                 · exact ⟨k + 1,by omega,by go_num,by rw [HF1.out];exact HOW.out,HNX.out,HBX.out⟩
                 · simp [intOf];omega
               | false =>
                 have HF1:Hid (freshW u (b.take (k + 1))=freshW u (b.take k) ++ [⟨T,Rp,K,key,val,N⟩]):=Lib.hid (by rw [HFS.out,if_neg (fun h=>by have:=HIA.out.2 h;cases this)])
                 have x0:=cell_of_row _ _ 0 _ _ _ hrow
                 have x1:=cell_of_row _ _ 1 _ _ _ hrow
                 have x2:=cell_of_row _ _ 2 _ _ _ hrow
                 have x3:=cell_of_row _ _ 3 _ _ _ hrow
                 have x4:=cell_of_row _ _ 4 _ _ _ hrow
                 have x5:=cell_of_row _ _ 5 _ _ _ hrow
                 simp only [List.getElem?_toArray,List.getElem?_cons_zero,List.getElem?_cons_succ] at x0 x1 x2 x3 x4 x5
                 go_wp2_with (at_builtin;refine wpList_append_wr rfl _ _ rfl w5.heap.size _ (freshW u (b.take k)) rfl (HOW.out.alloc _) wr.heap.size 1 rfl ⟨T,Rp,K,key,val,N⟩ ?c1 ?c2 ?c3 ?_)
                 case c1=>exact heap_alloc_new _ _
                 case c2=>have:=HFL2.out;omega
                 case c3=>have:=HBX.out.size;simp;omega
                 · intro g cap w6 ho6 hg6
                   have HB6:Hid (Below w5.heap.size w5 w6):=Lib.hid ((HBX.out.alloc HBX.out.size _).grown hg6 (by have:=HBX.out.size;simp;omega) (fun g hg=>(HOW.out.lt g hg).1))
                   rw [←HF1.out] at ho6
                   obtain ⟨m1,hm1⟩:∃ m1,m1=(freshW u (b.take k)).length + 1:=⟨_,rfl⟩
                   rw [←hm1] at ho6 ⊢
                   have HO6:=Lib.hid ho6
                   clear ho6 hg6 hm1
                   go_wp2
                   go_roundw
                   · exact ⟨k + 1,by omega,by go_num,HO6.out,HNX.out,HB6.out⟩
                   · simp [intOf];omega
         · have bt:decide ((k:Int) < (nb:Int))=false:=by simp;omega
           have hkn:k=nb:=by omega
           subst hkn
           have hbt:b.take k=b:=List.take_of_length_le (by rw [←HNB.out];exact Nat.le_refl _)
           have HOF:Hid (ownsW wq w5.heap.size u9 (freshW u b)):=Lib.hid (by have h:=HO.out;rw [hbt] at h;exact h)
           have HNF:Hid (∀ y∈b,¬ clash s.ws y):=Lib.hid (fun y hy c=>HNC.out y (by rw [hbt];exact hy) ((clash_perm HPE.out).2 c))
           have HFR:Hid ((freshW u b).length≤60):=Lib.hid (Nat.le_trans (freshW_le _ _) HB60.out)
           have HFE:=Lib.hid (freshW_perm HPE.out b)
           obtain ⟨av,cv2,rfl,_⟩:=HOF.out.is.form
           obtain ⟨fr,hfr⟩:∃ fr,fr=freshW u b:=⟨_,rfl⟩
           obtain ⟨nfr,hnfr⟩:∃ nfr,nfr=fr.length:=⟨_,rfl⟩
           rw [←hfr] at HOF HFR HFE ⊢
           rw [←hnfr] at HOF HFR ⊢
           have hfr6:nfr≤60:=HFR.out
           have HNFR:=Lib.hid hnfr
           have HFRE:=Lib.hid hfr
           have HTE:Hid (accE s f h b=if 300 < nl + nfr then (12,-1) else (0,-1)):=Lib.hid (by
             rw [HAE.out,togE_none HNF.out,accW_len,←HFE.out,←HNFR.out,←HPE.out.length_eq,←HNL.out])
           have l2:=HRQ.out.log.c2
           clear hbt hfr hnfr HO
           by_cases h3:300 < nl + nfr
           · have HE:Hid (accE s f h b=(12,-1)):=Lib.hid (by rw [HTE.out,if_pos h3])
             have h3':(300:Int) < (nl:Int) + (nfr:Int):=by omega
             clear h3
             go_wp2_with fail
             refine (rabare_any 12 _).mono ?_
             rintro r wX ⟨rfl,hbX⟩
             have HRX:=Lib.hid (HRQ.out.call hbX)
             clear hbX
             obtain ⟨⟨r0,r1⟩,g0,g1⟩:=HRX.out.cr
             go_wp2
             obtain ⟨hR,hbR⟩:=HRX.out.out (.int .i64 12) (.int .i64 (-1))
             obtain ⟨V,hV⟩:∃ V,V=(wX.setCell ⟨w.heap.size + 1,0,none⟩ (.int .i64 12)).setCell ⟨w.heap.size + 1,1,none⟩ (.int .i64 (-1)):=⟨_,rfl⟩
             rw [←hV] at hR hbR ⊢
             have hR2:=hR
             have hbR2:=hbR
             clear hV
             have q0:=cell_of_row _ _ 0 _ _ _ hR2
             have q1:=cell_of_row _ _ 1 _ _ _ hR2
             refine bodyPost_ret (v:=.tuple #[.int .i64 0,.agg #[.int .i64 12,.int .i64 (-1)]]) (by simp [results,Tryz.results9,go_sem,q0,q1]) rfl ?_
             exact .inl (by rw [HE.out];exact ⟨by simp,rfl,hbR2⟩)
           · have HE:Hid (accE s f h b=(0,-1)):=Lib.hid (by rw [HTE.out,if_neg h3])
             have h3':(nl:Int) + (nfr:Int)≤300:=by omega
             clear h3
             go_wp2_with (first
               | (at_builtin;refine wpList_append_wrsJ _ rfl _ _ rfl w5.heap.size _ [] rfl (ownsW_nil _ _) _ u rfl HRQ.out.log.wrs (by have:=HNL.out;simp;omega) HBL.out.size ?_;intro v7 w7 ho7 hg7 hv7;rw [List.nil_append] at ho7;obtain ⟨a7,c7,rfl,_⟩:=ho7.is.form;have HO7:=Lib.hid ho7;have HB7:Hid (Below w5.heap.size w5 w7):=Lib.hid (HBL.out.grown hg7 HBL.out.size (fun g hg=>absurd (show (none:Option Nat)=some g from hg) (by simp)));have HOF7:Hid (ownsW w7 w5.heap.size (.slice av nfr cv2) fr):=Lib.hid (HOF.out.below ((Below.refl _ _).grown hg7 (Nat.le_refl _) (fun g hg=>absurd (show (none:Option Nat)=some g from hg) (by simp))));clear ho7 hg7 hv7)
               | (at_builtin;refine wpList_append_wrsJ _ rfl _ _ rfl w5.heap.size _ u rfl HO7.out _ fr rfl HOF7.out (by have:=HNL.out;have:=HNFR.out;omega) HB7.out.size ?_;intro v8 w8 ho8 hg8 hv8;obtain ⟨a8,c8,rfl,_⟩:=ho8.is.form;obtain ⟨n8,hn8⟩:∃ n8,n8=(u ++ fr).length:=⟨_,rfl⟩;rw [←hn8] at ho8 ⊢;have HO8:=Lib.hid ho8;have HB8:Hid (Below w5.heap.size w5 w8):=Lib.hid (HB7.out.grown hg8 HB7.out.size (fun g hg=>(HO7.out.lt g hg).1));have HR8:=Lib.hid (HR5.out.call HB8.out);have z1:=HR8.out.log.c1;have z2:=HR8.out.log.c2;have y1:=Lib.frozen_of_heap HR8.out.log.row 1;have y2:=Lib.frozen_of_heap HR8.out.log.row 2;clear ho8 hg8 hv8 hn8)
               | fail)
             have hhv:(accS s h b).hv=jj:=by unfold accS;rw [HJ.out]
             have HI:Hid (RefIn ((w8.setCell ⟨R,1,none⟩ (.slice au nj cu)).setCell ⟨R,2,none⟩ (.slice a8 n8 c8)) R (fun k=>(G k∨w.heap.size + 2≤k)∧k < w8.heap.size) (accS s h b) (u ++ fr) (.slice au nj cu) (.slice a8 n8 c8)):=Lib.hid
               (HR8.out.log.store (s2:=accS s h b) (by rw [hhv];exact (HO5.out.below HB8.out).mono (Nat.zero_le _)) (ownsW.mono HO8.out (Nat.zero_le _)) rfl (by rw [HFRE.out];exact acc_perm HPE.out b h) (w.heap.size + 2) (fun k e=>Nat.le_trans HR4.out.sz (HO5.out.lt k e).1) (fun k e=>Nat.le_trans HR5.out.sz (HO8.out.lt k e).1))
             have HBU:Hid (But G w ((w8.setCell ⟨R,1,none⟩ (.slice au nj cu)).setCell ⟨R,2,none⟩ (.slice a8 n8 c8))):=Lib.hid (((But.of_below HR8.out.bel).setCell (.inl HR8.out.log.inR) _).setCell (.inl HR8.out.log.inR) _)
             have HRR:Hid (((w8.setCell ⟨R,1,none⟩ (.slice au nj cu)).setCell ⟨R,2,none⟩ (.slice a8 n8 c8)).heap[w.heap.size + 1]? = some (.cells #[.int .i64 0,.int .i64 0] 49 (0,0))):=Lib.hid ((heap_setCell_other _ _ _ _ (by show w.heap.size + 1≠R;omega)).trans ((heap_setCell_other _ _ _ _ (by show w.heap.size + 1≠R;omega)).trans HR8.out.rowr))
             have HFL:=Lib.hid HR8.out.fl
             obtain ⟨V8,hV8⟩:∃ V8,V8=(w8.setCell ⟨R,1,none⟩ (.slice au nj cu)).setCell ⟨R,2,none⟩ (.slice a8 n8 c8):=⟨_,rfl⟩
             rw [←hV8] at HI HBU HRR ⊢
             clear hV8 hhv z1 z2 y1 y2
             refine (ragood_any V8).mono ?_
             rintro r w9 ⟨rfl,hb9⟩
             have HI9:=Lib.hid (HI.out.below hb9)
             have HBU9:=Lib.hid (HBU.out.below_on hb9)
             have HRR9:=Lib.hid ((hb9.block _ (Array.getElem?_eq_some_iff.1 HRR.out).1).trans HRR.out)
             clear hb9 HI HBU HRR
             have r0:=cell_of_row _ _ 0 _ _ _ HRR9.out
             have r1:=cell_of_row _ _ 1 _ _ _ HRR9.out
             simp only [List.getElem?_toArray,List.getElem?_cons_zero,List.getElem?_cons_succ] at r0 r1
             have g0:=Lib.frozen_of_heap HRR9.out 0
             have g1:=Lib.frozen_of_heap HRR9.out 1
             go_wp2
             have hR:=heap_setCell_same _ _ 1 _ _ (.int .i64 (-1)) (heap_setCell_same _ _ 0 _ _ (.int .i64 0) HRR9.out)
             have hIZ:=HI9.out.but (F:=fun k=>k=w.heap.size + 1) (((But.refl (fun k=>k=w.heap.size + 1) w9).setCell (p:=⟨w.heap.size + 1,0,none⟩) (.inl rfl) (.int .i64 0)).setCell (p:=⟨w.heap.size + 1,1,none⟩) (.inl rfl) (.int .i64 (-1))) (fun k hk e=>by
               have e':k=w.heap.size + 1:=e
               rcases hk.1 with h1 | h1
               · have:=HFL.out k h1;omega
               · omega)
             have hBZ:But G w ((w9.setCell ⟨w.heap.size + 1,0,none⟩ (.int .i64 0)).setCell ⟨w.heap.size + 1,1,none⟩ (.int .i64 (-1))):=(HBU9.out.setCell (.inr (by simp)) _).setCell (.inr (by simp)) _
             obtain ⟨V,hV⟩:∃ V,V=(w9.setCell ⟨w.heap.size + 1,0,none⟩ (.int .i64 0)).setCell ⟨w.heap.size + 1,1,none⟩ (.int .i64 (-1)):=⟨_,rfl⟩
             rw [←hV] at hR hIZ hBZ ⊢
             clear hV
             have q0:=cell_of_row _ _ 0 _ _ _ hR
             have q1:=cell_of_row _ _ 1 _ _ _ hR
             refine bodyPost_ret (v:=.tuple #[.int .i64 nfr,.agg #[.int .i64 0,.int .i64 (-1)]]) (by simp [results,Tryz.results9,go_sem,q0,q1]) rfl ?_
             exact .inr (by rw [HE.out];exact ⟨rfl,by rw [←HFE.out,←HNFR.out],fun k=>(G k∨w.heap.size + 2≤k)∧k < w8.heap.size,fun k hk=>hk.1.imp id (fun h=>by omega),⟨_,_,_,hIZ⟩,hBZ⟩)
     · have HE:Hid (accE s f h b=(ej,-1)):=Lib.hid ((accE_j (by rw [HBF.out]) HCV.out (by rw [HJ.out];exact hej)).trans (by rw [HJ.out]))
       have hejb:((ej:Int) != 0)=true:=by simp;omega
       have HEJ:=Lib.hid hej
       clear hej
       go_wp2_with fail
       refine (rabare_any (ej:Int) _).mono ?_
       rintro r wX ⟨rfl,hbX⟩
       have HRX:=Lib.hid (HR5.out.call hbX)
       clear hbX
       obtain ⟨⟨r0,r1⟩,g0,g1⟩:=HRX.out.cr
       go_wp2
       obtain ⟨hR,hbR⟩:=HRX.out.out (.int .i64 (ej:Int)) (.int .i64 (-1))
       obtain ⟨V,hV⟩:∃ V,V=(wX.setCell ⟨w.heap.size + 1,0,none⟩ (.int .i64 (ej:Int))).setCell ⟨w.heap.size + 1,1,none⟩ (.int .i64 (-1)):=⟨_,rfl⟩
       rw [←hV] at hR hbR ⊢
       have hR2:=hR
       have hbR2:=hbR
       clear hV
       have q0:=cell_of_row _ _ 0 _ _ _ hR2
       have q1:=cell_of_row _ _ 1 _ _ _ hR2
       refine bodyPost_ret (v:=.tuple #[.int .i64 0,.agg #[.int .i64 (ej:Int),.int .i64 (-1)]]) (by simp [results,Tryz.results9,go_sem,q0,q1]) rfl ?_
       exact .inl (by rw [HE.out];exact ⟨HEJ.out,rfl,hbR2⟩)
 · refine (ris_any e0 pl0 false w2 (by simp;omega)).mono ?_
   rintro r w3 ⟨rfl,hb⟩
   have HR3:=Lib.hid (HR2.out.call hb)
   have HT3:=Lib.hid ((hb.block _ HTZ.out).trans HT.out)
   clear hb HT HTZ HR2
   have t0:=cell_of_row _ _ 0 _ _ _ HT3.out
   have t1:=cell_of_row _ _ 1 _ _ _ HT3.out
   simp only [List.getElem?_toArray,List.getElem?_cons_zero,List.getElem?_cons_succ] at t0 t1
   obtain ⟨⟨r0,r1⟩,g0,g1⟩:=HR3.out.cr
   have HE:Hid (accE s f h b=(e0,pl0)):=Lib.hid ((accE_b (by rw [HBF.out];exact hq0)).trans HBF.out)
   have HNZ:=Lib.hid hq0
   clear hq0
   go_wp2_with fail
   go_region
   go_wp2
   obtain ⟨hR,hbR⟩:=HR3.out.out (.int .i64 (e0:Int)) (.int .i64 pl0)
   have hR':(((w3.setCell ⟨w.heap.size + 1,0,none⟩ (.int .i64 (e0:Int))).setCell ⟨w.heap.size + 1,1,none⟩ (.int .i64 pl0)).drew).heap[w.heap.size + 1]? = some (.cells #[.int .i64 (e0:Int),.int .i64 pl0] 49 (0,0)):=hR
   have hbR':=hbR.drew
   obtain ⟨V,hV⟩:∃ V,V=((w3.setCell ⟨w.heap.size + 1,0,none⟩ (.int .i64 (e0:Int))).setCell ⟨w.heap.size + 1,1,none⟩ (.int .i64 pl0)).drew:=⟨_,rfl⟩
   rw [←hV] at hR' hbR' ⊢
   have hR2:=hR'
   have hbR2:=hbR'
   clear hV
   have q0:=cell_of_row _ _ 0 _ _ _ hR2
   have q1:=cell_of_row _ _ 1 _ _ _ hR2
   refine bodyPost_ret (v:=.tuple #[.int .i64 0,.agg #[.int .i64 (e0:Int),.int .i64 pl0]]) (by simp [results,Tryz.results9,go_sem,q0,q1]) rfl ?_
   exact .inl (by rw [HE.out];exact ⟨HNZ.out,rfl,hbR2⟩)
end Go.Proofs.YtddbpnplbcjpgaaGreatDoor
