import Derived.Test.YtgfinhehgfbdgaaGreatDoorKa13
import Derived.Test.YtgfinhehgfbdgaaGreatDoorKa36
import Derived.Test.YtgfinhehgfbdgaaGreatDoorKa18
import Derived.Test.YtgfinhehgfbdgaaGreatDoorKa35
import Derived.Defers
import Derived.Recover
import Derived.Stop.Asserts
namespace Go.Proofs.YtgfinhehgfbdgaaGreatDoor
open Go.RowKit
theorem int_to (s:ByteArray) (n k e:Nat) (w:World) (hs:s.size≤maxLen) (h:intL s.data.toList 20000=(n,k,e)) :
    Calls Tryz.prog 96 #[.string s,.int .i64 20000] w fun r w'=>r=.returned (.tuple #[.int .i64 (n:Int),.int .i64 (k:Int),errC e])∧w=w':=by
  have h1:=int_any s 20000 w hs (by omega) (by omega)
  rw [h] at h1
  exact h1
theorem intL_fits {l:List UInt8} {n k:Nat} (h:intL l 20000=(n,k,0)):n≤20000∧k≤l.length:=by
  rcases getL_cases l with ⟨e,hg,he⟩ | ⟨m,j,hg,_,_,_,hj⟩
  · rw [intL_bad hg he] at h;injection h with _ h;injection h with _ h;exact absurd h he
  · by_cases hm:(20000:Int) < 0∨(20000:Int) < m
    · rw [intL_range hg hm] at h;injection h with _ h;injection h with _ h;cases h
    · rw [intL_ok hg hm] at h
      injection h with h1 h
      injection h with h2 _
      subst h1 h2
      exact ⟨by omega,hj⟩
theorem swell_to (s T:ByteArray) (e:Nat) (pl:Int) (w:World) (hs:s.size≤400000) (hg:errT w) (hT:swellF s.data.toList=T.data.toList) (hr:(readF s.data.toList).1=(e,pl)) :
    Calls Tryz.prog 60 #[.string s] w fun r w'=>∃ err,r=.returned (.tuple #[.string T,err])∧atIs w' err (e,pl)∧Below w.heap.size w w':=by
  refine (lzswell_any s w hs hg).mono ?_
  rintro r w' ⟨err,rfl,hat,hb⟩
  rw [hT,bs_of,hr] at *
  exact ⟨err,rfl,hat,hb⟩
def unpV (r:List UInt8×Nat):Value:=.tuple #[.string ⟨r.1.toArray⟩,errC r.2]
set_option maxRecDepth 100000 in
set_option maxHeartbeats 1200000 in
theorem unpack_any (i:ByteArray) (w:World) (h1:1≤i.size) (hs:i.size≤400000) (hg:errT w) :
    Calls Tryz.prog 49 #[.string i] w fun e w'=>e=.returned (unpV (unpF i.data.toList))∧Below w.heap.size w w':=by
  have HG:=Lib.hid hg
  have hl:i.size=i.data.toList.length:=size_data i
  have hz:0 < i.size:=by omega
  obtain ⟨c, hc⟩ : ∃ c : UInt8, i[0]'hz = c := ⟨_, rfl⟩
  have hcd:i.data.toList.getD 0 0=c:=by
    rw [List.getD_eq_getElem?_getD,List.getElem?_eq_getElem (by omega),Option.getD_some,←hc];rfl
  have hzi:1≤(i.size:Int):=by omega
  clear hg
  by_cases hc2:1 < c.toNat
  · rw [unp_form (by rw [hcd];exact hc2)]
    have e1:((c.toNat:Int) != 0)=true:=by simp;omega
    have e2:((c.toNat:Int) != 1)=true:=by simp;omega
    clear hl hcd hc2
    go_enter Tryz.func49,Tryz.ntmps49
    go_wp2
    go_ret2
    exact ⟨rfl,Below.refl _ _⟩
  · obtain ⟨n,k,e,hi⟩:∃ n k e,intL (i.data.toList.drop 1) 20000=(n,k,e):=⟨_,_,_,rfl⟩
    have hid:(i.extract 1 i.size).data.toList=i.data.toList.drop 1:=by rw [ext_list];exact List.take_of_length_le (by simp)
    have HI:Hid (intL (i.extract 1 i.size).data.toList 20000=(n,k,e)):=Lib.hid (by rw [hid];exact hi)
    have HIZ:Hid ((i.extract 1 i.size).size≤maxLen):=Lib.hid (by unfold maxLen;simp;omega)
    by_cases he:e=0
    · subst he
      obtain ⟨hn,hk⟩:=intL_fits hi
      rw [List.length_drop,←hl] at hk
      obtain ⟨R,hR⟩:∃ R:ByteArray,i.extract (1 + k) i.size=R:=⟨_,rfl⟩
      have hRd:(i.data.toList.drop 1).drop k=R.data.toList:=by
        rw [←hR,ext_list,List.drop_drop];exact (List.take_of_length_le (by simp)).symm
      have hRz:R.size≤400000:=by rw [←hR];simp;omega
      have hkz:1 + k≤i.size:=by omega
      have hk1:IntKind.i64.wrap (1 + (k:Int))=1 + (k:Int):=IntWalk.i64_in _ (by omega)
      have hk2:(0:Int)≤1 + (k:Int):=by omega
      have hk3:1 + (k:Int)≤(i.size:Int):=by omega
      have hk4:(1 + (k:Int)).toNat=1 + k:=by omega
      rcases (show c.toNat=0∨c.toNat=1 by omega) with h0 | h0
      · obtain rfl:c=0:=UInt8.toNat_inj.1 h0
        by_cases hn2:R.size=n
        · have HQ : Hid (unpV (unpF i.data.toList) = .tuple #[.string R, .nilIface]) := Lib.hid (by
            rw [unp_ok0 (by rw [hcd];rfl) hi (by rw [hRd,←size_data];exact hn2),hRd]
            unfold unpV;rw [bs_of];rfl)
          rw [HQ.out]
          have hni:((R.size:Int) == (n:Int))=true:=by simp;omega
          clear hl hcd hid hi hRd
          go_enter Tryz.func49,Tryz.ntmps49
          go_wp2_with fail
          refine (int_to (i.extract 1 i.size) n k 0 _ HIZ.out HI.out).mono ?_
          rintro r w1 ⟨rfl,rfl⟩
          rw [errC_zero]
          go_wp2
          go_ret2
          exact ⟨rfl,Below.refl _ _⟩
        · have HQ : Hid (unpV (unpF i.data.toList) = .tuple #[.string ⟨#[]⟩, .iface 27 (.int .i64 2)]) := Lib.hid (by
            rw [unp_range0 (by rw [hcd];rfl) hi (by rw [hRd,←size_data];exact hn2)];rfl)
          rw [HQ.out]
          have hni:((R.size:Int) == (n:Int))=false:=by simp;omega
          clear hl hcd hid hi hRd
          go_enter Tryz.func49,Tryz.ntmps49
          go_wp2_with fail
          refine (int_to (i.extract 1 i.size) n k 0 _ HIZ.out HI.out).mono ?_
          rintro r w1 ⟨rfl,rfl⟩
          rw [errC_zero]
          go_wp2
          go_ret2
          exact ⟨rfl,Below.refl _ _⟩
      · obtain rfl:c=1:=UInt8.toNat_inj.1 h0
        obtain ⟨x,pl,hx⟩:∃ x pl,(readF R.data.toList).1=(x,pl):=⟨_,_,rfl⟩
        obtain ⟨T,hT⟩:∃ T:ByteArray,swellF R.data.toList=T.data.toList:=⟨⟨(swellF R.data.toList).toArray⟩,by simp⟩
        have HSW:=Lib.hid (fun w' hg=>swell_to R T x pl w' hRz hg hT hx)
        by_cases hx0:x=0
        · subst hx0
          by_cases hn2:T.size=n
          · have HQ : Hid (unpV (unpF i.data.toList) = .tuple #[.string T, .nilIface]) := Lib.hid (by
              rw [unp_ok1 (by rw [hcd];rfl) hi (by rw [hRd,hx]) (by rw [hRd,hT,←size_data];exact hn2),hRd,hT]
              unfold unpV;rw [bs_of];rfl)
            rw [HQ.out]
            have hni:((T.size:Int) == (n:Int))=true:=by simp;omega
            clear hl hcd hid hi hRd hx hT
            go_enter Tryz.func49,Tryz.ntmps49
            go_wp2_with fail
            refine (int_to (i.extract 1 i.size) n k 0 _ HIZ.out HI.out).mono ?_
            rintro r w1 ⟨rfl,rfl⟩
            rw [errC_zero]
            go_wp2_with fail
            refine (HSW.out w HG.out).mono ?_
            rintro r w2 ⟨err,rfl,hat,hb2⟩
            obtain rfl:=hat.nil rfl
            have HB2:=Lib.hid hb2
            clear hb2 hat
            go_wp2
            go_ret2
            exact ⟨rfl,HB2.out⟩
          · have HQ : Hid (unpV (unpF i.data.toList) = .tuple #[.string ⟨#[]⟩, .iface 27 (.int .i64 2)]) := Lib.hid (by
              rw [unp_range1 (by rw [hcd];rfl) hi (by rw [hRd,hx]) (by rw [hRd,hT,←size_data];exact hn2)];rfl)
            rw [HQ.out]
            have hni:((T.size:Int) == (n:Int))=false:=by simp;omega
            clear hl hcd hid hi hRd hx hT
            go_enter Tryz.func49,Tryz.ntmps49
            go_wp2_with fail
            refine (int_to (i.extract 1 i.size) n k 0 _ HIZ.out HI.out).mono ?_
            rintro r w1 ⟨rfl,rfl⟩
            rw [errC_zero]
            go_wp2_with fail
            refine (HSW.out w HG.out).mono ?_
            rintro r w2 ⟨err,rfl,hat,hb2⟩
            obtain rfl:=hat.nil rfl
            have HB2:=Lib.hid hb2
            clear hb2 hat
            go_wp2
            go_ret2
            exact ⟨rfl,HB2.out⟩
        · have HQ : Hid (unpV (unpF i.data.toList) = .tuple #[.string ⟨#[]⟩, .iface 27 (.int .i64 x)]) := Lib.hid (by
            rw [unp_swell (by rw [hcd];rfl) hi (by rw [hRd,hx]) hx0];unfold unpV;rw [errC_ne hx0])
          rw [HQ.out]
          clear hl hcd hid hi hRd hx hT
          go_enter Tryz.func49,Tryz.ntmps49
          go_wp2_with fail
          refine (int_to (i.extract 1 i.size) n k 0 _ HIZ.out HI.out).mono ?_
          rintro r w1 ⟨rfl,rfl⟩
          rw [errC_zero]
          go_wp2_with fail
          refine (HSW.out w HG.out).mono ?_
          rintro r w2 ⟨err,rfl,hat,hb2⟩
          have HIE:=Lib.hid (hat.isErr hx0)
          obtain ⟨t,u,rfl⟩:=hat.iface hx0
          have HB2:=Lib.hid hb2
          clear hb2 hat
          go_wp2_with fail
          refine (tell_err _ (x:Int) w2 (HG.out.below HB2.out) HIE.out).mono ?_
          rintro r w3 ⟨rfl,hb3⟩
          have HB3:Hid (Below w.heap.size w w3):=HB2.out.trans (hb3.mono HB2.out.size)
          clear hb3
          go_wp2
          go_ret2
          exact ⟨rfl,HB3.out⟩
    · have HQ : Hid (unpV (unpF i.data.toList) = .tuple #[.string ⟨#[]⟩, .iface 27 (.int .i64 e)]) := Lib.hid (by
        rw [unp_int (by rw [hcd];exact hc2) hi he];unfold unpV;rw [errC_ne he])
      rw [HQ.out]
      have hie:intL (i.extract 1 i.size).data.toList 20000=(n,k,e):=HI.out
      rcases (show c.toNat=0∨c.toNat=1 by omega) with h0 | h0
      · obtain rfl:c=0:=UInt8.toNat_inj.1 h0
        clear hl hcd hid hi hie
        go_enter Tryz.func49,Tryz.ntmps49
        go_wp2_with fail
        refine (int_to (i.extract 1 i.size) n k e _ HIZ.out HI.out).mono ?_
        rintro r w1 ⟨rfl,rfl⟩
        rw [errC_ne he]
        go_wp2
        go_ret2
        exact ⟨rfl,Below.refl _ _⟩
      · obtain rfl:c=1:=UInt8.toNat_inj.1 h0
        clear hl hcd hid hi hie
        go_enter Tryz.func49,Tryz.ntmps49
        go_wp2_with fail
        refine (int_to (i.extract 1 i.size) n k e _ HIZ.out HI.out).mono ?_
        rintro r w1 ⟨rfl,rfl⟩
        rw [errC_ne he]
        go_wp2
        go_ret2
        exact ⟨rfl,Below.refl _ _⟩
end Go.Proofs.YtgfinhehgfbdgaaGreatDoor
namespace Go.Proofs.YtgfinhehgfbdgaaGreatDoor
open Go.RowKit
theorem isErrorE (v:Value) (xT:TypeId) (w:World):(Instr.typeAssert (.iface 27 v) xT 33 true).run Tryz.prog w=.ok (.tuple #[.iface 27 v,.bool true]) w :=
 run_typeAssert_hasB Tryz.underlying33 (by kernel_rfl) v xT w
theorem isErrorA (v:Value) (xT:TypeId) (w:World):(Instr.typeAssert (.iface 82 v) xT 33 true).run Tryz.prog w=.ok (.tuple #[.iface 82 v,.bool true]) w :=
 run_typeAssert_hasB Tryz.underlying33 (by kernel_rfl) v xT w
theorem isErrorN (xT:TypeId) (w:World):(Instr.typeAssert .nilIface xT 33 true).run Tryz.prog w=.ok (.tuple #[.nilIface,.bool false]) w:=by kernel_rfl
set_option maxRecDepth 100000 in
theorem catS_idle (E:Nat) (w:World) :
   CallsD Tryz.prog 108 #[.pointer (some ⟨E,0,none⟩)] .returning w fun r u' w'=>r=.returned (.tuple #[])∧u'=.returning∧w'=w:=by
 have iN:=isErrorN
 refine callsD_of_wpS Tryz.func108 rfl fun c₀ cs hu=>?_
 apply wpS_seq
 apply wpS_region
 simp [wpOpsS,go_sem,recoverD,hu,Tryz.ntmps108,Exit.thenS,iN]
 refine wpS_of_wp ?_
 rw [show (#[.pointer (some ⟨E,0,none⟩)] ++ (((((((Array.replicate 9 undef).setIfInBounds 3 .nilIface).setIfInBounds 4 (.tuple #[.nilIface,.bool false])).setIfInBounds 2 (.tuple #[.nilIface,.bool false])).setIfInBounds 5 .nilIface).setIfInBounds 6 (.bool false)).setIfInBounds 0 .nilIface).setIfInBounds 1 (.bool false):Array Value)=#[.pointer (some ⟨E,0,none⟩),.nilIface,.bool false,.tuple #[.nilIface,.bool false],.nilIface,.tuple #[.nilIface,.bool false],.nilIface,.bool false,undef,undef] by kernel_rfl]
 go_wp2
 cases c₀
 simp_all [bodyPostS,results,Tryz.results108]
set_option maxRecDepth 100000 in
theorem catS_pan (E:Nat) (t:TypeId) (v old:Value) (older:List PanicEntry) (w:World) (ht:t=27∨t=82) (h0:w.cell? ⟨E,0,none⟩=some old) (z0:w.frozen? ⟨E,0,none⟩=false) :
   CallsD Tryz.prog 108 #[.pointer (some ⟨E,0,none⟩)] (.panicking ({ v:=.iface t v,recovered:=false } :: older)) w fun r u' w' =>
     r=.returned (.tuple #[])∧u'=.panicking ({ v:=.iface t v,recovered:=true } :: older)∧w'=w.setCell ⟨E,0,none⟩ (.iface t v):=by
 have iT:∀ (xT:TypeId) (w:World),(Instr.typeAssert (.iface t v) xT 33 true).run Tryz.prog w=.ok (.tuple #[.iface t v,.bool true]) w:=by
   rcases ht with rfl | rfl
   · exact fun xT w=>isErrorE v xT w
   · exact fun xT w=>isErrorA v xT w
 refine callsD_of_wpS Tryz.func108 rfl fun c₀ cs hu=>?_
 apply wpS_seq
 apply wpS_region
 simp [wpOpsS,go_sem,recoverD,hu,Tryz.ntmps108,Exit.thenS,iT]
 refine wpS_of_wp ?_
 rw [show (#[.pointer (some ⟨E,0,none⟩)] ++ (((((((Array.replicate 9 undef).setIfInBounds 3 (.iface t v)).setIfInBounds 4 (.tuple #[.iface t v,.bool true])).setIfInBounds 2 (.tuple #[.iface t v,.bool true])).setIfInBounds 5 (.iface t v)).setIfInBounds 6 (.bool true)).setIfInBounds 0 (.iface t v)).setIfInBounds 1 (.bool true):Array Value)=#[.pointer (some ⟨E,0,none⟩),.iface t v,.bool true,.tuple #[.iface t v,.bool true],.iface t v,.tuple #[.iface t v,.bool true],.iface t v,.bool true,undef,undef] by kernel_rfl]
 go_wp2
 simp [bodyPostS,results,Tryz.results108]
theorem anyErr.typed {w:World} {t:TypeId} {v:Value} {r:Nat×Int} (h:anyErr w (.iface t v) r):t=27∨t=82:=by
 rcases h with (⟨_,h⟩ | ⟨_,b,h,_⟩) | ⟨_,_,h⟩
 · cases h
 · injection h with h1 h2;exact .inr h1
 · injection h with h1 h2;exact .inl h1
theorem anyErr.set {w:World} {v x:Value} {r:Nat×Int} {E:Nat} (h:anyErr w v r) (hE:w.cell? ⟨E,0,none⟩=some .nilIface):anyErr (w.setCell ⟨E,0,none⟩ x) v r:=by
 rcases h with (h | ⟨h0,b,h1,h2,h3,h4⟩) | h
 · exact .inl (.inl h)
 · have hne:b≠E:=fun e=>by rw [e,hE] at h3;cases h3
   refine .inl (.inr ⟨h0,b,h1,by simpa using h2,?_,?_⟩)
   · rw [World.cell?_setCell_other _ _ _ _ (by intro e;first | (simp at e;done) | (simp at e;omega))];exact h3
   · rw [World.cell?_setCell_other _ _ _ _ (by intro e;simp at e)];exact h4
 · exact .inr h
def BWriteIs (w:World) (r:List UInt8×Nat×Int) (e:Ending) (w':World):Prop :=
 ∃ err,e=.returned (.tuple #[.string ⟨r.1.toArray⟩,err])∧anyErr w' err r.2∧Below w.heap.size w w'
def sdoor (E:Nat):List Deferred:=[{ target:=.fn (Fn.func 108) #[.pointer (some ⟨E,0,none⟩)],args:=#[] }]
set_option maxRecDepth 100000 in
theorem sdoor_bad {w W:World} {r:List UInt8×Nat×Int} {t:TypeId} {v:Value} (hb:Below w.heap.size w W) (hE:W.heap[w.heap.size]? = some (.cells #[.nilIface] 33 (0,0))) (hr1:r.1=[]) (ha:anyErr W (.iface t v) r.2) (tmps:Array Value)
   (t2:tmps[2]? = some (.string ⟨#[]⟩)) (t3:tmps[3]? = some (.pointer (some ⟨w.heap.size,0,none⟩))) :
   Leaves Tryz.prog Tryz.f61 tmps (BWriteIs w r) (sdoor w.heap.size) (.panicking [{ v:=.iface t v,recovered:=false }]) W:=by
 have c0:W.cell? ⟨w.heap.size,0,none⟩=some .nilIface:=cell_of_row _ _ 0 _ _ (0,0) hE
 unfold sdoor
 refine leaves_cons (f:=108) (args:=#[.pointer (some ⟨w.heap.size,0,none⟩)]) (by simp) (by simp [go_sem]) ?_
 refine (catS_pan w.heap.size t v .nilIface [] W ha.typed c0 (Lib.frozen_of_heap hE 0)).mono ?_
 rintro r' u' w2 ⟨rfl,rfl,rfl⟩
 have p0:(W.setCell ⟨w.heap.size,0,none⟩ (.iface t v)).cell? ⟨w.heap.size,0,none⟩=some (.iface t v):=World.cell?_setCell_same _ _ _ c0
 refine ⟨.tuple #[.string ⟨#[]⟩,.iface t v],by simp [results,Tryz.results61,go_sem,t2,t3,p0],.iface t v,?_,ha.set c0,hb.setCell (by simp) _⟩
 rw [hr1]
set_option maxRecDepth 100000 in
theorem sdoor_good {w W:World} {r:List UInt8×Nat×Int} (hb:Below w.heap.size w W) (hE:W.heap[w.heap.size]? = some (.cells #[.nilIface] 33 (0,0))) (hr2:r.2=(0,-1)) (tmps:Array Value)
   (t2:tmps[2]? = some (.string ⟨r.1.toArray⟩)) (t3:tmps[3]? = some (.pointer (some ⟨w.heap.size,0,none⟩))) :
   Leaves Tryz.prog Tryz.f61 tmps (BWriteIs w r) (sdoor w.heap.size) .returning W:=by
 have c0:W.cell? ⟨w.heap.size,0,none⟩=some .nilIface:=cell_of_row _ _ 0 _ _ (0,0) hE
 unfold sdoor
 refine leaves_cons (f:=108) (args:=#[.pointer (some ⟨w.heap.size,0,none⟩)]) (by simp) (by simp [go_sem]) ?_
 refine (catS_idle w.heap.size W).mono ?_
 rintro r' u' w2 ⟨rfl,rfl,rfl⟩
 refine ⟨.tuple #[.string ⟨r.1.toArray⟩,.nilIface],by simp [results,Tryz.results61,go_sem,t2,t3,c0],.nilIface,rfl,?_,hb⟩
 exact .inl (.inl ⟨hr2,rfl⟩)
set_option maxRecDepth 100000 in
set_option maxHeartbeats 1000000 in
theorem catS_any (b:Nat) (w:World) (r:List UInt8×Nat×Int) (hf:Calls Tryz.prog 62 #[.pointer (some ⟨b,0,none⟩)] (w.alloc (.cells #[.nilIface] 33)) (WrtnIs (w.alloc (.cells #[.nilIface] 33)) r)) :
   Calls Tryz.prog 61 #[.func (.func 62) #[] #[.pointer (some ⟨b,0,none⟩)]] w (BWriteIs w r):=by
 have hmf:∀ (fn:Fn) (first cap:Array Value) (w:World),(Instr.makeFunc fn first cap).run Tryz.prog w=.ok (.func fn first cap) w:=fun _ _ _ _=>rfl
 have HF:=Lib.hid hf
 clear hf
 go_enter_defers Tryz.func61,Tryz.ntmps61
 go_wp2_with fail
 refine HF.out.mono ?_
 rintro e w1 ⟨hb1,hc⟩
 have hbw:Below w.heap.size w w1:=((Below.refl _ _).alloc (Nat.le_refl _) _).trans (hb1.mono (by simp))
 have hE:w1.heap[w.heap.size]? = some (.cells #[.nilIface] 33 (0,0)):=(hb1.block _ (by simp)).trans (heap_alloc_new w _)
 have HB:=Lib.hid hbw
 have HE:=Lib.hid hE
 rcases hc with ⟨hr,rfl⟩ | ⟨hne,hr1,t,v,rfl,ha⟩
 · have c0:w1.cell? ⟨w.heap.size,0,none⟩=some .nilIface:=cell_of_row _ _ 0 _ _ (0,0) hE
   have z0:w1.frozen? ⟨w.heap.size,0,none⟩=false:=Lib.frozen_of_heap hE 0
   have HR:=Lib.hid hr
   have HS:Hid ((w1.setCell ⟨w.heap.size,0,none⟩ .nilIface).heap[w.heap.size]? = some (.cells #[.nilIface] 33 (0,0))):=Lib.hid (by rw [heap_setCell_same _ _ _ _ _ _ hE];rfl)
   have HBS:Hid (Below w.heap.size w (w1.setCell ⟨w.heap.size,0,none⟩ .nilIface)):=Lib.hid (hbw.setCell (by simp) _)
   clear hb1 hbw hE hr
   go_wp2
   exact sdoor_good HBS.out HS.out HR.out _ rfl rfl
 · exact sdoor_bad HB.out HE.out hr1 ha _ rfl rfl
set_option maxRecDepth 100000 in
theorem write1_any (b:Nat) (vf vh vw:Value) (f h:List Ent) (l:List Wr) (w:World) (hx:BatIs w vf vh vw f h l) (hg:errT w) (hc:batAt w b vf vh vw) :
   Calls Tryz.prog 62 #[.pointer (some ⟨b,0,none⟩)] w (WrtnIs w (bodyF f h l)):=by
 have HX:=Lib.hid hx
 have HG:=Lib.hid hg
 obtain ⟨c0,c1,c2⟩:=hc
 obtain ⟨af,cf,rfl,_⟩:=hx.1.form
 obtain ⟨ah,ch,rfl,_⟩:=hx.2.1.form
 obtain ⟨aw,cw,rfl,_⟩:=hx.2.2.1.form
 generalize f.length=nf at HX c0 ⊢
 generalize h.length=nh at HX c1 ⊢
 generalize l.length=n at HX c2 ⊢
 clear hx hg
 have hw:Calls Tryz.prog 63 #[.agg #[.slice af nf cf,.slice ah nh ch,.slice aw n cw]] w (WrtnIs w (bodyF f h l)):=by
   by_cases h0:(batF f h l).1=0
   · exact written_ok _ _ _ f h l w HX.out HG.out h0
   · exact written_bad _ _ _ f h l w HX.out HG.out h0
 have HW:=Lib.hid hw
 clear hw
 go_enter Tryz.func62,Tryz.ntmps62
 go_wp2_with fail
 refine HW.out.mono ?_
 rintro e w1 ⟨hb1,hc⟩
 rcases hc with ⟨hr,rfl⟩ | ⟨hne,hr1,t,v,rfl,ha⟩
 · have HB:=Lib.hid hb1
   have HR:=Lib.hid hr
   clear hb1 hr
   go_wp2
   go_ret
   exact ⟨HB.out,.inl ⟨HR.out,rfl⟩⟩
 · exact And.intro rfl ⟨hb1,.inr ⟨hne,hr1,t,v,rfl,ha⟩⟩
set_option maxRecDepth 100000 in
theorem bwrite_any (vf vh vw:Value) (f h:List Ent) (l:List Wr) (w:World) (hx:BatIs w vf vh vw f h l) (hg:errT w) :
   Calls Tryz.prog 27 #[.agg #[vf,vh,vw]] w (BWriteIs w (bodyF f h l)):=by
 have hmf:∀ (fn:Fn) (first cap:Array Value) (w:World),(Instr.makeFunc fn first cap).run Tryz.prog w=.ok (.func fn first cap) w:=fun _ _ _ _=>rfl
 obtain ⟨W0,hW0⟩:∃ W0,w.alloc (.cells #[vf,vh,vw] 25)=W0:=⟨_,rfl⟩
 have hb0:Below w.heap.size w W0:=by rw [←hW0];exact (Below.refl _ _).alloc (Nat.le_refl _) _
 have hz0:w.heap.size < W0.heap.size:=by rw [←hW0];simp
 have hc:=batAt_new w vf vh vw 25
 rw [hW0] at hc
 have hx0:BatIs W0 vf vh vw f h l:=hx.below hb0
 have hcat:=catS_any w.heap.size W0 (bodyF f h l) (write1_any w.heap.size vf vh vw f h l _ (hx0.alloc _) ((hg.below hb0).alloc _) (hc.below ((Below.refl _ _).alloc (Nat.le_refl _) _) hz0))
 have HCAT:=Lib.hid hcat
 have HB0:=Lib.hid hb0
 obtain ⟨af,cf,rfl,_⟩:=hx.1.form
 obtain ⟨ah,ch,rfl,_⟩:=hx.2.1.form
 obtain ⟨aw,cw,rfl,_⟩:=hx.2.2.1.form
 generalize f.length=nf at hW0 ⊢
 generalize h.length=nh at hW0 ⊢
 generalize l.length=n at hW0 ⊢
 clear hx hg hb0 hz0 hc hx0 hcat
 go_enter Tryz.func27,Tryz.ntmps27
 go_wp2_with fail
 refine HCAT.out.mono ?_
 rintro e w1 ⟨err,rfl,ha,hb1⟩
 have HA:=Lib.hid ha
 have HB1:Hid (Below w.heap.size w w1):=HB0.out.trans (hb1.mono HB0.out.size)
 clear ha hb1
 go_wp2
 go_ret2
 exact ⟨err,rfl,HA.out,HB1.out⟩
end Go.Proofs.YtgfinhehgfbdgaaGreatDoor
