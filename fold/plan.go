package fold

import (
	"slices"

	"warrantor/alarm"
	"warrantor/api"
	"warrantor/finger"
	"warrantor/journal"
	"warrantor/result"
)

// plans is what the batch of a command of each kind is, and why it may not be.
func plans() map[int]func(*table, api.Cmd) ([]api.Change, api.Errno) {
	return map[int]func(*table, api.Cmd) ([]api.Change, api.Errno){
		api.CmRun:   (*table).planRun,
		api.CmMute:  (*table).planMute,
		api.CmOpen:  (*table).planOpen,
		api.CmDone:  (*table).planDone,
		api.CmBase:  (*table).planBase,
		api.CmMerge: (*table).planMerge,
		api.CmPack:  (*table).planPack,
	}
}

// Plan tells the batch of a command.
func Plan(l []api.Entry, c api.Cmd) ([]api.Change, api.Errno) {
	t, ok := open(l)
	plan, known := plans()[c.Kind]
	if !ok || !known || c.N != 0 && c.N != 1 {
		return nil, api.ErrArg
	}
	batch, e := plan(t, c)
	if e != api.OK {
		return nil, e
	}
	if len(batch) > api.MaxChanges {
		return nil, api.ErrLong
	}
	if _, e := All(l, batch); e != api.OK {
		return nil, e
	}
	return batch, api.OK
}

// change tells the change of a kind that uses a fingerprint, and a note.
func change(kind int, finger uint64, note string) api.Change {
	return api.Change{Kind: kind, Entry: api.Entry{Finger: finger, Note: note}}
}

// planRun tells all alarms, and, if it is asked for, is done with what is open and was not told.
func (t *table) planRun(c api.Cmd) ([]api.Change, api.Errno) {
	if len(c.Alarms) > api.MaxAlarms {
		return nil, api.ErrLong
	}
	if slices.ContainsFunc(c.Alarms, func(a api.Alarm) bool { return alarm.Check(a) != api.OK }) {
		return nil, api.ErrAlarm
	}
	var batch []api.Change
	told := map[uint64]struct{}{}
	for i, f := range finger.Of(c.Alarms) {
		told[f] = struct{}{}
		batch = append(batch, api.Change{Kind: api.ChTell, Entry: api.Entry{Finger: f, Alarm: c.Alarms[i]}})
	}
	for _, e := range t.l {
		if _, is := told[e.Finger]; c.N == 1 && e.State == api.EnOpen && !is {
			batch = append(batch, change(api.ChDone, e.Finger, ""))
		}
	}
	return batch, api.OK
}

func (t *table) planMute(c api.Cmd) ([]api.Change, api.Errno) {
	e := result.Base([]api.Mark{{Note: c.Note}})
	return []api.Change{change(api.ChMute, c.Finger, c.Note)}, e
}

func (t *table) planOpen(c api.Cmd) ([]api.Change, api.Errno) {
	return []api.Change{change(api.ChOpen, c.Finger, "")}, api.OK
}

func (t *table) planDone(c api.Cmd) ([]api.Change, api.Errno) {
	return []api.Change{change(api.ChDone, c.Finger, "")}, api.OK
}

// planBase mutes what a baseline knows, but what stands so already.
func (t *table) planBase(c api.Cmd) ([]api.Change, api.Errno) {
	if e := result.Base(c.Marks); e != api.OK {
		return nil, e
	}
	var batch []api.Change
	for _, m := range c.Marks {
		if e, ok := t.find(m.Finger); ok && !stands(e, api.EnMuted, m.Note) {
			batch = append(batch, change(api.ChMute, m.Finger, m.Note))
		}
	}
	return batch, api.OK
}

// planMerge puts those entries of another database that change something.
func (t *table) planMerge(c api.Cmd) ([]api.Change, api.Errno) {
	if !journal.Stand(c.Entries) {
		return nil, api.ErrArg
	}
	var batch []api.Change
	for _, e := range c.Entries {
		if old, ok := t.find(e.Finger); !ok || both(old, e) != old {
			batch = append(batch, api.Change{Kind: api.ChPut, Entry: e})
		}
	}
	return batch, api.OK
}

func (t *table) planPack(api.Cmd) ([]api.Change, api.Errno) { return nil, api.OK }
